/- A part of the proof. -/
import Derived.Test.YtmddjopahcbefabGreatProg
import Derived.Test.YtmddjopahcbefabGreatXV3G9
import Derived.Test.YtmddjopahcbefabGreatXV3G10
namespace Go.Proofs.YtmddjopahcbefabGreat
open Go Go.Proofs.YtmddjopahcbefabGreat.Clean
set_option linter.unusedVariables false
set_option linter.unusedSimpArgs false
set_option maxRecDepth 10000
theorem choS_mem {bx:List It} {p:List (List It)} {v:List Int} {N:Nat} {x:Nat×Int×List It}:x∈choS bx p v N↔x.1<N∧choF p v (bl8 x.1) 0 bx=some (x.2.1,x.2.2):=by
 obtain ⟨s,val,l⟩:=x
 simp only [choS,List.mem_filterMap,List.mem_range,Option.map_eq_some_iff]
 constructor
 ·rintro ⟨a,ha,⟨q1,q2⟩,hq,he⟩
  simp only [Prod.mk.injEq] at he
  obtain ⟨rfl,rfl,rfl⟩:=he
  exact ⟨ha,hq⟩
 ·rintro ⟨h1,h2⟩
  exact ⟨s,h1,_,h2,rfl⟩
theorem Stk.nok {l:List It} (h:Stk l) : ∀ x∈l,Nok x:=fun x hx=>⟨by have:=(h.2.2.2 x hx).1; omega,by have:=(h.2.2.2 x hx).2; omega⟩
def hasF:List It→Int→Int→Int
 | [],_,_=>0
 | y::r,a,b=>if y.1=a∧y.2.1=b then y.2.2 else hasF r a b
theorem has40 {l:List It} {a b:Int} {R:V→Prop} (hl:l.length≤1000) (h:R (iv (hasF l a b))):K0G Tryz.prog glX 36 [.lst 3 (itl l),iv a,u8v b] R:=by
 refine K0_of_WY0 hmX hcM 3000 Tryz.func36 (see (p:=La 0 [(0:Tmp),(1:Tmp),(2:Tmp),(7:Tmp)] (WY Tryz.prog cfM 2995 (Env.mk (Bs.mk 0 []) 0 none 35 36 0) (cdAt [1,0,1,0,0] (bodyOf Tryz.f36))) (Qblk 0 (Qthen (WY Tryz.prog cfM 2998 (Env.mk (Bs.mk 0 []) 0 none 35 36 0) (cdAt [1,1] (bodyOf Tryz.f36)) (QendX Tryz.prog Tryz.f36 fun v h=>R (frzW h v))) (QendX Tryz.prog Tryz.f36 fun v h=>R (frzW h v)))) (St.mk (mkT [(0,V.lst 3 (itl l)),(1,iv a),(2,V.raw (Value.int IntKind.u8 b)),(7,iv (0:Int))]) (Hp.mk [] 0 []))) (by kernel_rfl) ?_)
 refine La.of (σ:=Nat) (fun k=>sh40 l a b k) (fun k=>k≤l.length∧hasF l a b=hasF (l.drop k) a b) (fun k=>l.length - k) 0 (by kernel_rfl) ⟨by simp,by simp⟩ ?_
 rintro k ⟨g1,g2⟩ J hJ
 refine see (p:=ifB (decide ((↑k:Int)<(↑(itl l).length:Int))) (onSome (itl l)[k]? fun row=>onSome row[0]? fun v=>onIntK IntKind.i64 v fun n=>ifB (n==a) (onSome (itl l)[k]? fun row=>onSome row[1]? fun v=>onIntK IntKind.u8 v fun n=>ifB (n==b) (onSome (itl l)[k]? fun row=>onSome row[2]? fun v=>onIntK IntKind.i64 v fun n=>R (iv n)) (J (St.mk (mkT [(0,V.lst 3 (itl l)),(1,iv a),(2,V.raw (Value.int IntKind.u8 b)),(7,iv (IntKind.i64.wrap ((↑k:Int)+(1:Int))))]) (Hp.mk [] 0 [])))) (J (St.mk (mkT [(0,V.lst 3 (itl l)),(1,iv a),(2,V.raw (Value.int IntKind.u8 b)),(7,iv (IntKind.i64.wrap ((↑k:Int)+(1:Int))))]) (Hp.mk [] 0 [])))) (R (iv (0:Int)))) (by kernel_rfl) ?_
 rw [itl_length]
 refine ifB_mk (fun hb=>?_) (fun hb=>?_)
 ·have hlt:k<l.length:=by have:=of_decide_eq_true hb; omega
  obtain ⟨x,hx⟩ : ∃ x,l[k]? = some x:=⟨l[k],by simp [hlt]⟩
  have hd:l.drop k=x::l.drop (k+1):=by
   rw [List.drop_eq_getElem_cons hlt]; congr 1; simpa [hlt] using hx
  rw [hd] at g2
  simp only [hasF] at g2
  rw [wr1i hlt (by omega)]
  have go : ¬ (x.1=a∧x.2.1=b)→J (sh40 l a b (k+1)):=fun hn=>hJ (k+1) ⟨by omega,by rw [g2,if_neg hn]⟩ (by omega)
  refine onSome_mk (itl_get hx) (onSome_mk (x:=iv x.1) rfl (onIntK_iv (ifB_mk (fun h1=>?_) (fun h1=>go (fun e=>by rw [e.1] at h1; simp at h1)))))
  refine onSome_mk (itl_get hx) (onSome_mk (x:=u8v x.2.1) rfl (onIntK_u8 (ifB_mk (fun h2=>?_) (fun h2=>go (fun e=>by rw [e.2] at h2; simp at h2)))))
  refine onSome_mk (itl_get hx) (onSome_mk (x:=iv x.2.2) rfl (onIntK_iv ?_))
  rw [if_pos ⟨by simpa using h1,by simpa using h2⟩] at g2
  rw [← g2]
  exact h
 ·have hk:l.drop k=[]:=List.drop_eq_nil_of_le (by have:=of_decide_eq_false hb; omega)
  rw [hk] at g2
  simp only [hasF] at g2
  rw [g2] at h
  exact h
theorem hasF_ok {l:List It} (h : ∀ x∈l,0≤x.2.2∧x.2.2≤1000) (a b:Int):0≤hasF l a b∧hasF l a b≤1000:=by
 induction l with
 | nil=>simp [hasF]
 | cons y r ih =>
  simp only [hasF]
  split
  ·exact h y (by simp)
  ·exact ih (fun x hx=>h x (by simp [hx]))
def sumF:List (List It)→List Nat→Nat→It→Int
 | l::p,w::who,m,x=>(if w=m then hasF l x.1 x.2.1 else 0)+sumF p who m x
 | _,_,_,_=>0
theorem ul_get {l:List Nat} {i n:Nat} (h:l[i]? = some n):(ul l)[i]? = some [sv n]:=by simp [ul,h]
theorem sum41 {p:List (List It)} {who:List Nat} {m:Nat} {x:It} {R:V→Prop} (hp:p.length≤8) (hw:who.length=p.length) (hs : ∀ l∈p,Stk l) (h:R (iv (sumF p who m x))):K0G Tryz.prog glX 35 [.lst 1 (pll p),.lst 1 (ul who),sv m,.agg (itm x)] R:=by
  refine K0_of_WY0 hmX hcM 3000 Tryz.func35 (see (p:=La 0 [(1:Tmp),(2:Tmp),(7:Tmp),(9:Tmp),(12:Tmp),(13:Tmp),(14:Tmp)] (WY Tryz.prog cfM 2994 (Env.mk (Bs.mk 0 []) 0 none 35 35 0) (cdAt [1,1,0,1,0,0] (bodyOf Tryz.f35))) (Qblk 0 (Qthen (WY Tryz.prog cfM 2997 (Env.mk (Bs.mk 0 []) 0 none 35 35 0) (cdAt [1,1,1] (bodyOf Tryz.f35)) (QendX Tryz.prog Tryz.f35 fun v h=>R (frzW h v))) (QendX Tryz.prog Tryz.f35 fun v h=>R (frzW h v)))) (St.mk (mkT [(1,V.lst 1 (ul who)),(2,V.raw (Value.int IntKind.u8 (↑m:Int))),(7,V.ptr (Id.p 0) 0 0),(9,iv (0:Int)),(12,V.lst 1 (pll p)),(13,iv (↑(pll p).length:Int)),(14,iv (0:Int))]) (Hp.mk [(0,O.rows 3 false [[iv x.1,V.raw (Value.int IntKind.u8 x.2.1),iv x.2.2]])] 1 []))) (by kernel_rfl) ?_)
  refine La.of (σ:=Int×Nat) (fun k=>sh41 p who m x k.1 k.2) (fun k=>k.2≤p.length∧0≤k.1∧k.1≤(k.2:Int) * 1000∧sumF p who m x=k.1+sumF (p.drop k.2) (who.drop k.2) m x) (fun k=>p.length - k.2) (0,0) (by kernel_rfl) ⟨by simp,by simp,by simp,by simp⟩ ?_
  rintro ⟨n,k⟩ ⟨g1,g2,g3,g4⟩ J hJ
  simp only at g1 g2 g3 g4
  refine see (p:=ifB (decide ((↑k:Int)<(↑(pll p).length:Int))) (onSome (pll p)[k]? fun row=>onSome row[0]? fun v=>onLst v fun s es=>onSome (ul who)[k]? fun row=>onSome row[0]? fun v=>onIntK IntKind.u8 v fun n_1=>ifB (n_1==(↑m:Int)) (K0G Tryz.prog glX 36 [V.lst s es,iv x.1,V.raw (Value.int IntKind.u8 x.2.1)] fun v=>onIntK IntKind.i64 v fun n_2=>J (St.mk (mkT [(1,V.lst 1 (ul who)),(2,V.raw (Value.int IntKind.u8 (↑m:Int))),(7,V.ptr (Id.p 0) 0 0),(9,iv (IntKind.i64.wrap (n+n_2))),(12,V.lst 1 (pll p)),(13,iv (↑(pll p).length:Int)),(14,iv (IntKind.i64.wrap ((↑k:Int)+(1:Int))))]) (Hp.mk [(0,O.rows 3 false [[iv x.1,V.raw (Value.int IntKind.u8 x.2.1),iv x.2.2]])] 1 []))) (J (St.mk (mkT [(1,V.lst 1 (ul who)),(2,V.raw (Value.int IntKind.u8 (↑m:Int))),(7,V.ptr (Id.p 0) 0 0),(9,iv n),(12,V.lst 1 (pll p)),(13,iv (↑(pll p).length:Int)),(14,iv (IntKind.i64.wrap ((↑k:Int)+(1:Int))))]) (Hp.mk [(0,O.rows 3 false [[iv x.1,V.raw (Value.int IntKind.u8 x.2.1),iv x.2.2]])] 1 [])))) (R (iv n))) (by kernel_rfl) ?_
  rw [pll_length]
  refine ifB_mk (fun hb=>?_) (fun hb=>?_)
  · have hlt:k<p.length:=by have:=of_decide_eq_true hb; omega
    obtain ⟨l,hl⟩ : ∃ x,p[k]? = some x:=⟨p[k],by simp [hlt]⟩
    obtain ⟨w,hw'⟩ : ∃ x,who[k]? = some x:=⟨who[k],by simp [hw,hlt]⟩
    have hd:p.drop k=l::p.drop (k+1):=by
      rw [List.drop_eq_getElem_cons hlt]; congr 1; simpa [hlt] using hl
    have hd' : who.drop k=w::who.drop (k+1):=by
      rw [List.drop_eq_getElem_cons (by omega)]; congr 1; simpa [hw,hlt] using hw'
    rw [hd,hd'] at g4
    simp only [sumF] at g4
    rw [wr1i hlt (by omega)]
    refine pll_get hl (onSome_mk (ul_get hw') (onSome_mk (x:=sv w) rfl (onIntK_u8 (ifB_mk (fun h1=>?_) (fun h1=>?_)))))
    · have e : w = m := by have : (w : Int) = m := by simpa using h1
                           omega
      rw [if_pos e] at g4
      have hk:=hs l (List.mem_of_getElem? hl)
      have hh:=hasF_ok (fun y hy=>⟨by have:=(hk.2.2.2 y hy).1; omega,(hk.2.2.2 y hy).2⟩ : ∀ y∈l,0≤y.2.2∧y.2.2≤1000) x.1 x.2.1
      refine has40 (by have:=hk.1; omega) (onIntK_iv ?_)
      rw [wr (by omega) (by omega)]
      refine hJ' ?_ (hJ (n+hasF l x.1 x.2.1,k+1) ⟨by simp only; omega,by simp only; omega,by simp only; omega,by simp only; omega⟩ (by simp only; omega))
      simp [sh41,pll_length,sv,u8v,itm]
    · have e : ¬ w=m:=by rintro rfl; simp at h1
      rw [if_neg e] at g4
      refine hJ' ?_ (hJ (n,k+1) ⟨by simp only; omega,by simp only; omega,by simp only; omega,by simp only; omega⟩ (by simp only; omega))
      simp [sh41,pll_length,sv,u8v,itm]
  · have hk:p.drop k=[]:=List.drop_eq_nil_of_le (by have:=of_decide_eq_false hb; omega)
    rw [hk] at g4
    simp only [sumF] at g4
    rw [show sumF p who m x=n from by omega] at h
    exact h
theorem Bef.trans {x y z:It} (h:Bef x y) (g:Bef y z):Bef x z:=by unfold Bef at *; omega
theorem Bef.ne {x y:It} (h:Bef x y) : ¬ (y.1=x.1∧y.2.1=x.2.1):=by unfold Bef at h; omega
theorem Ord.tail {x:It} {l:List It} (h:Ord (x::l)):Ord l:=fun i a b ha hb=>h (i+1) a b (by simpa using ha) (by simpa using hb)
theorem Ord.pair : ∀ {l:List It},Ord l→l.Pairwise Bef
 | [],_ => .nil
 | [x],_=>by simp
 | x::y::l,h=>by
  have ih:=Ord.pair h.tail
  have hxy:Bef x y:=h 0 x y rfl rfl
  refine List.Pairwise.cons (fun z hz=>?_) ih
  rcases List.mem_cons.1 hz with rfl | hz
  ·exact hxy
  ·exact hxy.trans ((List.pairwise_cons.1 ih).1 z hz)
def G (l:List It):Prop:=l.Pairwise Bef ∧ ∀ x∈l,1≤x.2.2
theorem G.tail {x:It} {l:List It} (h:G (x::l)):G l:=⟨(List.pairwise_cons.1 h.1).2,fun y hy=>h.2 y (by simp [hy])⟩
theorem G.nil:G []:=⟨.nil,by simp⟩
theorem G.pos {l:List It} (h:G l) (a b:Int):0≤hasF l a b:=by
 induction l with
 | nil=>simp [hasF]
 | cons y r ih =>
  simp only [hasF]
  split
  ·have:=h.2 y (by simp); omega
  ·exact ih h.tail
theorem has_none {l:List It} {a b:Int} (h : ∀ y∈l, ¬ (y.1=a∧y.2.1=b)):hasF l a b=0:=by
 induction l with
 | nil=>rfl
 | cons y r ih =>
  simp only [hasF]
  rw [if_neg (h y (by simp))]
  exact ih (fun z hz=>h z (by simp [hz]))
theorem G.head {x:It} {l:List It} (h:G (x::l)):hasF l x.1 x.2.1=0:=has_none fun y hy e=>((List.pairwise_cons.1 h.1).1 y hy).ne e
theorem has_mem {l:List It} {a b:Int} (h:hasF l a b≠0) : ∃ y∈l,y.1=a∧y.2.1=b:=by
 induction l with
 | nil=>exact (h rfl).elim
 | cons y r ih =>
  simp only [hasF] at h
  split at h
  ·rename_i e
   exact ⟨y,by simp,e⟩
  ·obtain ⟨z,h1,h2⟩:=ih h
   exact ⟨z,by simp [h1],h2⟩
theorem G.has {l:List It} (h:G l) {x:It} (hx:x∈l):hasF l x.1 x.2.1=x.2.2:=by
 induction l with
 | nil=>cases hx
 | cons y r ih =>
  simp only [hasF]
  rcases List.mem_cons.1 hx with rfl | hx'
  ·rw [if_pos ⟨rfl,rfl⟩]
  ·rw [if_neg (fun e=>((List.pairwise_cons.1 h.1).1 x hx').ne ⟨e.1.symm,e.2.symm⟩)]
   exact ih h.tail hx'
theorem has_cons (x:It) (l:List It) (a b:Int):hasF (x::l) a b=if x.1=a∧x.2.1=b then x.2.2 else hasF l a b:=rfl
def allF (l:List It):Int:=(l.map fun x=>x.2.2).sum
theorem rest_G : ∀ {l o m p:List It},G l→G o→restF l o=some (m,p)→G m∧(∀ z∈m, ∃ w∈l,w.1=z.1∧w.2.1=z.2.1)∧allF m≤allF l∧G p
 | [],o,m,p,hl,ho,h=>by simp only [restF,Option.some.injEq,Prod.mk.injEq] at h; obtain ⟨rfl,rfl⟩:=h; exact ⟨G.nil,by simp,Int.le_refl _,ho⟩
 | x::l,o,m,p,hl,ho,h=>by
  have hx:=hl.2 x (by simp)
  have ht:G (takeF x o).2∧(takeF x o).1≤x.2.2:=by
   cases o with
   | nil=>exact ⟨G.nil,Int.le_refl _⟩
   | cons y o =>
    by_cases hc:y.1=x.1∧y.2.1=x.2.1
    ·rw [show takeF x (y::o)=(x.2.2 - y.2.2,o) from if_pos hc]
     have:=ho.2 y (by simp)
     exact ⟨ho.tail,by simp only; omega⟩
    ·rw [show takeF x (y::o)=(x.2.2,y::o) from if_neg hc]
     exact ⟨ho,Int.le_refl _⟩
  simp only [restF] at h
  generalize takeF x o=t at h ht
  obtain ⟨n,o'⟩:=t
  simp only at h ht
  split at h
  ·cases h
  ·cases hr:restF l o' with
   | none=>rw [hr] at h; cases h
   | some q =>
    rw [hr] at h
    simp only [Option.map_some,Option.some.injEq,Prod.mk.injEq] at h
    obtain ⟨rfl,rfl⟩:=h
    obtain ⟨i1,i2,i3,i4⟩:=rest_G hl.tail ht.1 (show restF l o' = some (q.1,q.2) from hr)
    unfold keepF
    split
    ·rename_i hn
     refine ⟨⟨List.Pairwise.cons (fun z hz=>?_) i1.1,fun z hz=>?_⟩,fun z hz=>?_,?_,i4⟩
     ·obtain ⟨w,w1,w2⟩:=i2 z hz
      have:=(List.pairwise_cons.1 hl.1).1 w w1
      unfold Bef at *
      simp only
      omega
     ·rcases List.mem_cons.1 hz with rfl | hz
      ·simp only; omega
      ·exact i1.2 z hz
     ·rcases List.mem_cons.1 hz with rfl | hz
      ·exact ⟨x,by simp,rfl,rfl⟩
      ·obtain ⟨w,w1,w2⟩:=i2 z hz
       exact ⟨w,by simp [w1],w2⟩
     ·simp only [allF,List.map_cons,List.sum_cons,List.singleton_append] at *
      omega
    ·refine ⟨i1,fun z hz=>?_,?_,i4⟩
     ·obtain ⟨w,w1,w2⟩:=i2 z hz
      exact ⟨w,by simp [w1],w2⟩
     ·simp only [allF,List.map_cons,List.sum_cons,List.nil_append] at *
      omega
theorem rest_sub : ∀ {l o m:List It},G l→G o→restF l o=some (m,[]) → ∀ a b,hasF m a b=hasF l a b - hasF o a b
 | [],o,m,hl,ho,h,a,b=>by simp only [restF,Option.some.injEq,Prod.mk.injEq] at h; obtain ⟨rfl,rfl⟩:=h; simp [hasF]
 | x::l,o,m,hl,ho,h,a,b=>by
  have hx:=hl.2 x (by simp)
  have key : ∀ n o', ¬ n<0 → ∀ m,(restF l o').map (fun p=>(keepF x n++p.1,p.2))=some (m,[]) → ∃ m', restF l o' = some (m', [])∧m=keepF x n++m' := by
   intro n o' hn m h
   cases hr:restF l o' with
   | none=>rw [hr] at h; cases h
   | some q =>
    rw [hr] at h
    simp only [Option.map_some,Option.some.injEq,Prod.mk.injEq] at h
    exact ⟨q.1,by rw [← h.2],h.1.symm⟩
  simp only [restF] at h
  have same : ∀ y o', o=y::o' → (y.1=x.1∧y.2.1=x.2.1)→hasF m a b=hasF (x::l) a b - hasF o a b:=by
   rintro y o' rfl hc
   rw [show takeF x (y::o')=(x.2.2 - y.2.2,o') from if_pos hc] at h
   simp only at h
   split at h
   ·cases h
   ·rename_i hn
    obtain ⟨m', h1,rfl⟩:=key _ _ hn _ h
    obtain ⟨i1,i2,_,_⟩:=rest_G hl.tail ho.tail h1
    have ih:=rest_sub hl.tail ho.tail h1 a b
    have hh:=hl.head
    have hh' := ho.head
    rw [has_cons,has_cons,hc.1,hc.2]
    unfold keepF
    by_cases e:x.1=a∧x.2.1=b
    ·rw [if_pos e,if_pos e]
     split
     ·rw [List.singleton_append,has_cons,if_pos e]
     ·rw [List.nil_append,ih,← e.1,← e.2,hh,← hc.1,← hc.2,hh']
      omega
    ·rw [if_neg e,if_neg e,← ih]
     split
     ·rw [List.singleton_append,has_cons,if_neg e]
     ·rfl
  have other:takeF x o=(x.2.2,o)→hasF m a b=hasF (x::l) a b - hasF o a b:=by
   intro ht
   rw [ht] at h
   simp only at h
   split at h
   ·cases h
   ·rename_i hn
    obtain ⟨m', h1,rfl⟩:=key _ _ hn _ h
    obtain ⟨i1,i2,_,_⟩:=rest_G hl.tail ho h1
    have ih:=rest_sub hl.tail ho h1
    rw [show keepF x x.2.2=[(x.1,x.2.1,x.2.2)] from if_pos (by omega),List.singleton_append,has_cons,has_cons]
    by_cases e:x.1=a∧x.2.1=b
    ·rw [if_pos e,if_pos e]
     have q:=ih x.1 x.2.1
     rw [hl.head] at q
     have q1:=i1.pos x.1 x.2.1
     have q2:=ho.pos x.1 x.2.1
     rw [← e.1,← e.2]
     simp only
     omega
    ·rw [if_neg e,if_neg e]
     exact ih a b
  cases o with
  | nil=>exact other rfl
  | cons y o' =>
   by_cases hc:y.1=x.1∧y.2.1=x.2.1
   ·exact same y o' rfl hc
   ·exact other (if_neg hc)
theorem rest_all : ∀ {l o:List It},G l→G o→(∀ a b,hasF o a b≤hasF l a b) → ∃ m,restF l o=some (m,[])
 | [],o,hl,ho,h=>by
  cases o with
  | nil=>exact ⟨[],rfl⟩
  | cons y o =>
   have:=h y.1 y.2.1
   rw [ho.has (by simp)] at this
   have:=ho.2 y (by simp)
   simp only [hasF] at *
   omega
 | x::l,o,hl,ho,h=>by
  have hx:=hl.2 x (by simp)
  have ext : ∀ n o', ¬ n<0→takeF x o=(n,o')→G o' → (∀ a b,hasF o' a b≤hasF l a b) → ∃ m,restF (x::l) o=some (m,[]):=by
   intro n o' hn ht go hh
   obtain ⟨m,hm⟩:=rest_all hl.tail go hh
   refine ⟨keepF x n++m,?_⟩
   simp only [restF,ht]
   rw [if_neg hn,hm]
   rfl
  cases o with
  | nil=>exact ext x.2.2 [] (by omega) rfl G.nil (fun a b=>hl.tail.pos a b)
  | cons y o =>
   by_cases hc:y.1=x.1∧y.2.1=x.2.1
   ·have h0:=h x.1 x.2.1
    rw [has_cons,has_cons,if_pos hc,if_pos ⟨rfl,rfl⟩] at h0
    refine ext (x.2.2 - y.2.2) o (by omega) (if_pos hc) ho.tail (fun a b=>?_)
    have:=h a b
    rw [has_cons,has_cons,hc.1,hc.2] at this
    by_cases e:x.1=a∧x.2.1=b
    ·have hh' := ho.head
     rw [hc.1,hc.2,e.1,e.2] at hh'
     rw [hh']
     exact hl.tail.pos a b
    ·rw [if_neg e,if_neg e] at this
     exact this
   ·refine ext x.2.2 (y::o) (by omega) (if_neg hc) ho (fun a b=>?_)
    have:=h a b
    rw [has_cons x] at this
    by_cases e:x.1=a∧x.2.1=b
    ·
     have hy:=h y.1 y.2.1
     rw [ho.has (by simp),has_cons,if_neg (fun e=>hc ⟨e.1.symm,e.2.symm⟩)] at hy
     have hy1:=ho.2 y (by simp)
     obtain ⟨w,w1,w2⟩:=has_mem (l:=l) (a:=y.1) (b:=y.2.1) (by omega)
     have hxw:=(List.pairwise_cons.1 hl.1).1 w w1
     have hxy:Bef x y:=by unfold Bef at *; omega
     rw [has_none (l:=y::o) (fun z hz=>?_)]
     ·exact hl.tail.pos a b
     ·have hxz:Bef x z:=by
       rcases List.mem_cons.1 hz with rfl | hz
       ·exact hxy
       ·exact hxy.trans ((List.pairwise_cons.1 ho.1).1 z hz)
      have:=hxz.ne
      rw [e.1,e.2] at this
      exact this
    ·rw [if_neg e] at this
     exact this
theorem Stk.g {l:List It} (h:Stk l):G l:=⟨h.2.1.pair,fun x hx=>(h.2.2.2 x hx).1⟩
def needF (p:List (List It)) (q:List Nat) (a b:Int):Int:=(q.map fun i=>hasF (p.getD i []) a b).sum
theorem needF_pos {p:List (List It)} (hp : ∀ l∈p,G l) : ∀ (q:List Nat) (a b:Int),0≤needF p q a b
 | [],a,b=>by simp [needF]
 | i::q,a,b=>by
  have ih:=needF_pos hp q a b
  have:G (p.getD i []):=by
   by_cases h:i<p.length
   ·exact hp _ (List.mem_of_getElem? (getPl h))
   ·simp [List.getD,show p.length≤i from by omega,G.nil]
  have:=this.pos a b
  simp only [needF,List.map_cons,List.sum_cons] at *
  omega
theorem getG {p:List (List It)} (hp : ∀ l∈p,G l) (i:Nat):G (p.getD i []):=by
 by_cases h:i<p.length
 ·exact hp _ (List.mem_of_getElem? (getPl h))
 ·simp [List.getD,show p.length≤i from by omega,G.nil]
theorem cho_some {p:List (List It)} {v:List Int} (hp : ∀ l∈p,G l) : ∀ {q:List Nat} {l m:List It} {n w:Int},G l→choF p v q n l=some (w,m)→w=n+(q.map fun i=>v.getD i 0).sum∧G m∧allF m≤allF l ∧ ∀ a b,hasF m a b=hasF l a b - needF p q a b
 | [],l,m,n,w,hl,h=>by simp only [choF,Option.some.injEq,Prod.mk.injEq] at h; obtain ⟨rfl,rfl⟩:=h; exact ⟨by simp,hl,Int.le_refl _,by simp [needF]⟩
 | i::q,l,m,n,w,hl,h=>by
  simp only [choF] at h
  split at h
  ·rename_i l' hr
   obtain ⟨i1,_,i3,_⟩:=rest_G hl (getG hp i) hr
   have hs:=rest_sub hl (getG hp i) hr
   obtain ⟨j1,j2,j3,j4⟩:=cho_some hp i1 h
   refine ⟨by rw [j1]; simp only [List.map_cons,List.sum_cons]; omega,j2,by omega,fun a b=>?_⟩
   rw [j4,hs]
   simp only [needF,List.map_cons,List.sum_cons]
   omega
  ·cases h
theorem cho_all {p:List (List It)} {v:List Int} (hp : ∀ l∈p,G l) : ∀ {q:List Nat} {l:List It} {n:Int},G l→(∀ a b,needF p q a b≤hasF l a b) → ∃ m,choF p v q n l=some m
 | [],l,n,hl,h=>⟨_,rfl⟩
 | i::q,l,n,hl,h=>by
  have e : ∀ a b,needF p (i::q) a b=hasF (p.getD i []) a b+needF p q a b:=fun a b=>by simp [needF]
  obtain ⟨m,hm⟩:=rest_all hl (getG hp i) (fun a b=>by have:=h a b; rw [e] at this; have:=needF_pos hp q a b; omega)
  obtain ⟨i1,_,_,_⟩:=rest_G hl (getG hp i) hm
  have hs:=rest_sub hl (getG hp i) hm
  obtain ⟨x,hx⟩:=cho_all (v:=v) hp (q:=q) (n:=n+v.getD i 0) i1 (fun a b=>by have:=h a b; rw [e] at this; rw [hs]; omega)
  exact ⟨x,by simp only [choF,hm]; exact hx⟩
theorem lots78 {l:List It} {R:V→Prop} (h : ∀ b,R (bv b)):K0G Tryz.prog glX 27 [.lst 3 (itl l)] R:=by
 refine K0_of_WY0 hmX hcM 3000 Tryz.func27 (see (p:=ifB (decide ((↑(itl l).length:Int) > (40:Int))) (R (bv true)) (La 0 [(0:Tmp),(3:Tmp),(4:Tmp)] (WY Tryz.prog cfM 2993 (Env.mk (Bs.mk 0 []) 0 none 29 27 0) (cdAt [1,1,1,0,1,0,0] (bodyOf Tryz.f27))) (Qblk 0 (Qthen (WY Tryz.prog cfM 2996 (Env.mk (Bs.mk 0 []) 0 none 29 27 0) (cdAt [1,1,1,1] (bodyOf Tryz.f27)) (QendX Tryz.prog Tryz.f27 fun v h=>R (frzW h v))) (QendX Tryz.prog Tryz.f27 fun v h=>R (frzW h v)))) (St.mk (mkT [(0,V.lst 3 (itl l)),(3,iv (0:Int)),(4,iv (0:Int))]) (Hp.mk [] 0 [])))) (by kernel_rfl) ?_)
 rw [itl_length]
 refine ifB_mk (fun _=>h _) (fun hl=>?_)
 have hl:l.length≤40:=by have:=of_decide_eq_false hl; omega
 refine La.of (σ:=Int×Nat) (fun x=>sh78 l x.1 x.2) (fun x=>x.2≤l.length) (fun x=>l.length - x.2) (0,0) (by kernel_rfl) (by simp) ?_
 rintro ⟨n,k⟩ g1 J hJ
 simp only at g1
 refine see (p:=ifB (decide ((↑k:Int)<(↑(itl l).length:Int))) (onSome (itl l)[k]? fun row=>onSome row[2]? fun v=>onIntK IntKind.i64 v fun n_1=>ifB (decide (n_1 ≥ (0:Int))) (ifB (decide (n_1≤(1000:Int))) (onSome (itl l)[k]? fun row=>onSome row[2]? fun v=>onIntK IntKind.i64 v fun n_2=>J (St.mk (mkT [(0,V.lst 3 (itl l)),(3,iv (IntKind.i64.wrap (n+n_2))),(4,iv (IntKind.i64.wrap ((↑k:Int)+(1:Int))))]) (Hp.mk [] 0 []))) (J (St.mk (mkT [(0,V.lst 3 (itl l)),(3,iv n),(4,iv (IntKind.i64.wrap ((↑k:Int)+(1:Int))))]) (Hp.mk [] 0 [])))) (J (St.mk (mkT [(0,V.lst 3 (itl l)),(3,iv n),(4,iv (IntKind.i64.wrap ((↑k:Int)+(1:Int))))]) (Hp.mk [] 0 [])))) (R (bv (decide (n > (8000:Int)))))) (by kernel_rfl) ?_
 rw [itl_length]
 refine ifB_mk (fun hb=>?_) (fun hb=>h _)
 have hlt:k<l.length:=by have:=of_decide_eq_true hb; omega
 obtain ⟨x,hx⟩ : ∃ x,l[k]? = some x:=⟨l[k],by simp [hlt]⟩
 have go : ∀ m,J (sh78 l m (k+1)):=fun m=>hJ (m,k+1) (by simp only; omega) (by simp only; omega)
 rw [wr1i hlt (by omega)]
 refine onSome_mk (itl_get hx) (onSome_mk (x:=iv x.2.2) rfl (onIntK_iv ?_))
 refine ifB_mk (fun _=>ifB_mk (fun _=>onSome_mk (itl_get hx) (onSome_mk (x:=iv x.2.2) rfl (onIntK_iv (go _)))) (fun _=>go _)) (fun _=>go _)
theorem lots28 {p:List (List It)} {R:V→Prop} (hp:p.length≤6) (h : ∀ b,R (bv b)):K0G Tryz.prog glX 7 [.lst 1 (pll p)] R:=by
 refine K0_of_WY0 hmX hcM 3000 Tryz.func7 (see (p:=La 0 [(5:Tmp),(6:Tmp),(7:Tmp)] (WY Tryz.prog cfM 2995 (Env.mk (Bs.mk 0 []) 0 none 14 7 0) (cdAt [1,0,1,0,0] (bodyOf Tryz.f7))) (Qblk 0 (Qthen (WY Tryz.prog cfM 2998 (Env.mk (Bs.mk 0 []) 0 none 14 7 0) (cdAt [1,1] (bodyOf Tryz.f7)) (QendX Tryz.prog Tryz.f7 fun v h=>R (frzW h v))) (QendX Tryz.prog Tryz.f7 fun v h=>R (frzW h v)))) (St.mk (mkT [(5,V.lst 1 (pll p)),(6,iv (↑(pll p).length:Int)),(7,iv (0:Int))]) (Hp.mk [] 0 []))) (by kernel_rfl) ?_)
 refine La.of (σ:=Nat) (fun k=>sh28 p k) (fun k=>k≤p.length) (fun k=>p.length - k) 0 (by kernel_rfl) (by simp) ?_
 intro k g1 J hJ
 refine see (p:=ifB (decide ((↑k:Int)<(↑(pll p).length:Int))) (onSome (pll p)[k]? fun row=>onSome row[0]? fun v=>onLst v fun s es=>K0G Tryz.prog glX 27 [V.lst s es] fun v=>onBool v fun b=>ifB b (R (bv true)) (J (St.mk (mkT [(5,V.lst 1 (pll p)),(6,iv (↑(pll p).length:Int)),(7,iv (IntKind.i64.wrap ((↑k:Int)+(1:Int))))]) (Hp.mk [] 0 [])))) (R (bv false))) (by kernel_rfl) ?_
 simp only [pll_length]
 refine ifB_mk (fun hb=>?_) (fun hb=>h _)
 have hlt:k<p.length:=by have:=of_decide_eq_true hb; omega
 obtain ⟨l,hl⟩ : ∃ x,p[k]? = some x:=⟨p[k],by simp [hlt]⟩
 rw [wr1i hlt (by omega)]
 refine pll_get hl (lots78 (fun b=>onBool_bv (ifB_mk (fun _=>h _) (fun _=>hJ' ?_ (hJ (k+1) (by omega) (by omega))))))
 simp [sh28,pll_length]
theorem small37 {p:List (List It)} {v:List Int} {R:V→Prop} (h : ∀ b,(b=true→p.length≤6∧v.length≤20)→R (bv b)):K0G Tryz.prog glX 8 [.lst 1 (pll p),.lst 1 (nl v)] R:=by
 refine K0_of_WY0 hmX hcM 3000 Tryz.func8 (see (p:=ifB (decide ((↑(pll p).length:Int)≤(6:Int))) (K0G Tryz.prog glX 7 [V.lst 1 (pll p)] fun v_1=>onBool v_1 fun b=>ifB (!b) (R (bv (decide ((↑(nl v).length:Int)≤(20:Int))))) (R (bv false))) (R (bv false))) (by kernel_rfl) ?_)
 rw [pll_length]
 have nll:(nl v).length=v.length:=by simp [nl]
 rw [nll]
 refine ifB_mk (fun h1=>?_) (fun _=>h _ (fun h=>by cases h))
 have h1:p.length≤6:=by have:=of_decide_eq_true h1; omega
 refine lots28 h1 (fun b=>onBool_bv (ifB_mk (fun _=>h _ (fun h2=>⟨h1,by have:=of_decide_eq_true h2; omega⟩)) (fun _=>h _ (fun h=>by cases h))))
def Built (bx:List It) (p:List (List It)) (who:List Nat) (m:Nat):Prop := ∀ (i:Nat) (l:List It),p[i]? = some l→who[i]? = some m → ∀ x∈l,sumF p who m x≤hasF bx x.1 x.2.1
theorem built39 {bx:List It} {p:List (List It)} {who:List Nat} {m:Nat} {R:V→Prop} (hbx:bx.length≤30) (hp:p.length≤8) (hw:who.length=p.length) (hs : ∀ l∈p,Stk l) (h : ∀ b,(b=true↔Built bx p who m)→R (bv b)):K0G Tryz.prog glX 10 [.lst 3 (itl bx),.lst 1 (pll p),.lst 1 (ul who),sv m] R:=by
  refine K0_of_WY0 hmX hcM 3000 Tryz.func10 (see (p:=La 0 [(0:Tmp),(1:Tmp),(2:Tmp),(3:Tmp),(13:Tmp),(14:Tmp),(15:Tmp)] (WY Tryz.prog cfM 2995 (Env.mk (Bs.mk 0 []) 0 none 48 10 0) (cdAt [1,0,1,0,0] (bodyOf Tryz.f10))) (Qblk 0 (Qthen (WY Tryz.prog cfM 2998 (Env.mk (Bs.mk 0 []) 0 none 48 10 0) (cdAt [1,1] (bodyOf Tryz.f10)) (QendX Tryz.prog Tryz.f10 fun v h=>R (frzW h v))) (QendX Tryz.prog Tryz.f10 fun v h=>R (frzW h v)))) (St.mk (mkT [(0,V.lst 3 (itl bx)),(1,V.lst 1 (pll p)),(2,V.lst 1 (ul who)),(3,V.raw (Value.int IntKind.u8 (↑m:Int))),(13,V.lst 1 (pll p)),(14,iv (↑(pll p).length:Int)),(15,iv (0:Int))]) (Hp.mk [] 0 []))) (by kernel_rfl) ?_)
  refine La.of (σ:=Nat) (fun k=>sh39 bx p who m k) (fun k=>k≤p.length ∧ ∀ (i:Nat) (l:List It),i<k→p[i]? = some l→who[i]? = some m → ∀ x∈l,sumF p who m x≤hasF bx x.1 x.2.1) (fun k=>p.length - k) 0 (by kernel_rfl) ⟨by simp,by simp⟩ ?_
  rintro k ⟨g1,g2⟩ J hJ
  refine see (p:=ifB (decide ((↑k:Int)<(↑(pll p).length:Int))) (onSome (pll p)[k]? fun row=>onSome row[0]? fun v=>onLst v fun s es=>La 0 [(0:Tmp),(1:Tmp),(2:Tmp),(3:Tmp),(9:Tmp),(13:Tmp),(14:Tmp),(15:Tmp),(20:Tmp),(21:Tmp),(22:Tmp)] (WY Tryz.prog cfM 2987 (Env.mk (Bs.mk 0 []) 0 none 48 10 2) (cdAt [1,0,1,0,0,1,1,0,0,1,1,0,0] (bodyOf Tryz.f10))) (Qblk 2 (Qblk 1 (Qthen (WY Tryz.prog cfM 2992 (Env.mk (Bs.mk 0 []) 0 none 48 10 0) (cdAt [1,0,1,0,0,1,1,1] (bodyOf Tryz.f10)) (Qla 0 [(0:Tmp),(1:Tmp),(2:Tmp),(3:Tmp),(13:Tmp),(14:Tmp),(15:Tmp)] J (Qblk 0 (Qthen (WY Tryz.prog cfM 2998 (Env.mk (Bs.mk 0 []) 0 none 48 10 0) (cdAt [1,1] (bodyOf Tryz.f10)) (QendX Tryz.prog Tryz.f10 fun v h=>R (frzW h v))) (QendX Tryz.prog Tryz.f10 fun v h=>R (frzW h v)))))) (Qla 0 [(0:Tmp),(1:Tmp),(2:Tmp),(3:Tmp),(13:Tmp),(14:Tmp),(15:Tmp)] J (Qblk 0 (Qthen (WY Tryz.prog cfM 2998 (Env.mk (Bs.mk 0 []) 0 none 48 10 0) (cdAt [1,1] (bodyOf Tryz.f10)) (QendX Tryz.prog Tryz.f10 fun v h=>R (frzW h v))) (QendX Tryz.prog Tryz.f10 fun v h=>R (frzW h v)))))))) (St.mk (mkT [(0,V.lst 3 (itl bx)),(1,V.lst 1 (pll p)),(2,V.lst 1 (ul who)),(3,V.raw (Value.int IntKind.u8 (↑m:Int))),(9,iv (↑k:Int)),(13,V.lst 1 (pll p)),(14,iv (↑(pll p).length:Int)),(15,iv (↑k:Int)),(20,V.lst s es),(21,iv (↑es.length:Int)),(22,iv (0:Int))]) (Hp.mk [] 0 []))) (R (bv true))) (by kernel_rfl) ?_
  rw [pll_length]
  refine ifB_mk (fun hb=>?_) (fun hb=>?_)
  · have hlt:k<p.length:=by have:=of_decide_eq_true hb; omega
    obtain ⟨l,hl⟩ : ∃ x,p[k]? = some x:=⟨p[k],by simp [hlt]⟩
    obtain ⟨w,hw'⟩ : ∃ x,who[k]? = some x:=⟨who[k],by simp [hw,hlt]⟩
    have hk:=hs l (List.mem_of_getElem? hl)
    refine pll_get hl ?_
    refine La.of (σ:=Nat) (fun j=>sh39b bx p who m k l j) (fun j=>j≤l.length∧(w=m → ∀ (i:Nat) x,i<j→l[i]? = some x→sumF p who m x≤hasF bx x.1 x.2.1)) (fun j=>l.length - j) 0 (by rw [← pll_length]; kernel_rfl) ⟨by simp,by simp⟩ ?_
    rintro j ⟨f1,f2⟩ J2 hJ2
    refine see (p:=ifB (decide ((↑j:Int)<(↑(itl l).length:Int))) (onSome (itl l)[j]? fun row=>onCons (List.drop 0 row) fun u r=>onIntK IntKind.i64 u fun n=>onCons r fun u r=>onIntK IntKind.u8 u fun n_1=>onCons r fun u r=>onIntK IntKind.i64 u fun n_2=>onSome (ul who)[k]? fun row=>onSome row[0]? fun v=>onIntK IntKind.u8 v fun n_3=>ifB (n_3==(↑m:Int)) (K0G Tryz.prog glX 35 [V.lst 1 (pll p),V.lst 1 (ul who),V.raw (Value.int IntKind.u8 (↑m:Int)),V.agg [iv n,V.raw (Value.int IntKind.u8 n_1),iv n_2]] fun v=>onIntK IntKind.i64 v fun n_4=>K0G Tryz.prog glX 36 [V.lst 3 (itl bx),iv n,V.raw (Value.int IntKind.u8 n_1)] fun v=>onIntK IntKind.i64 v fun n=>ifB (decide (n_4 > n)) (R (bv false)) (J2 (St.mk (mkT [(0,V.lst 3 (itl bx)),(1,V.lst 1 (pll p)),(2,V.lst 1 (ul who)),(3,V.raw (Value.int IntKind.u8 (↑m:Int))),(9,iv (↑k:Int)),(13,V.lst 1 (pll p)),(14,iv (↑(pll p).length:Int)),(15,iv (↑k:Int)),(20,V.lst 3 (itl l)),(21,iv (↑(itl l).length:Int)),(22,iv (IntKind.i64.wrap ((↑j:Int)+(1:Int))))]) (Hp.mk [] 0 [])))) (J2 (St.mk (mkT [(0,V.lst 3 (itl bx)),(1,V.lst 1 (pll p)),(2,V.lst 1 (ul who)),(3,V.raw (Value.int IntKind.u8 (↑m:Int))),(9,iv (↑k:Int)),(13,V.lst 1 (pll p)),(14,iv (↑(pll p).length:Int)),(15,iv (↑k:Int)),(20,V.lst 3 (itl l)),(21,iv (↑(itl l).length:Int)),(22,iv (IntKind.i64.wrap ((↑j:Int)+(1:Int))))]) (Hp.mk [] 0 [])))) (J (St.mk (mkT [(0,V.lst 3 (itl bx)),(1,V.lst 1 (pll p)),(2,V.lst 1 (ul who)),(3,V.raw (Value.int IntKind.u8 (↑m:Int))),(13,V.lst 1 (pll p)),(14,iv (↑(pll p).length:Int)),(15,iv (IntKind.i64.wrap ((↑k:Int)+(1:Int))))]) (Hp.mk [] 0 [])))) (by kernel_rfl) ?_
    simp only [itl_length]
    refine ifB_mk (fun hc=>?_) (fun hc=>?_)
    · have hjl:j<l.length:=by have:=of_decide_eq_true hc; omega
      obtain ⟨x,hx⟩ : ∃ x,l[j]? = some x:=⟨l[j],by simp [hjl]⟩
      rw [wr1i hjl (by have:=hk.1; omega)]
      have go:(w=m→sumF p who m x≤hasF bx x.1 x.2.1)→J2 (sh39b bx p who m k l (j+1)):=fun hg=>hJ2 (j+1) ⟨by omega,fun e i y hi hy=>by
        rcases Nat.lt_succ_iff_lt_or_eq.1 hi with q | q
        · exact f2 e i y q hy
        · rw [q,hx] at hy; cases hy; exact hg e⟩ (by omega)
      refine onSome_mk (itl_get hx) (onCons_cons (onIntK_iv (onCons_cons (onIntK_u8 (onCons_cons (onIntK_iv ?_))))))
      refine onSome_mk (ul_get hw') (onSome_mk (x:=sv w) rfl (onIntK_u8 (ifB_mk (fun h1=>?_) (fun h1=>?_))))
      · have e : w = m := by have : (w : Int) = m := by simpa using h1
                             omega
        refine sum41 hp hw hs (onIntK_iv (has40 (by omega) (onIntK_iv (ifB_mk (fun h2=>?_) (fun h2=>?_)))))
        · refine h false ⟨(fun h=>by cases h),fun hB=>?_⟩
          have:=hB k l hl (by rw [hw', e]) x (List.mem_of_getElem? hx)
          have:=of_decide_eq_true h2
          omega
        · exact hJ' (by simp [sh39b,itl_length,sv,u8v]) (go (fun _=>by have:=of_decide_eq_false h2; omega))
      · have e : ¬ w=m:=by rintro rfl; simp at h1
        exact hJ' (by simp [sh39b,itl_length,sv,u8v]) (go (fun e' => absurd e' e))
    · have hjl:j=l.length:=by have:=of_decide_eq_false hc; omega
      rw [wr1i hlt (by omega)]
      refine hJ' ?_ (hJ (k+1) ⟨by omega,fun i y hi hy hm x hx=>?_⟩ (by omega))
      · simp [sh39,pll_length,sv,u8v]
      · rcases Nat.lt_succ_iff_lt_or_eq.1 hi with q | q
        · exact g2 i y q hy hm x hx
        · rw [q,hl] at hy
          cases hy
          rw [q,hw'] at hm
          cases hm
          obtain ⟨a,ha⟩:=List.getElem?_of_mem hx
          exact f2 rfl a x (by have:=(List.getElem?_eq_some_iff.1 ha).1; omega) ha
  · have hk:k=p.length:=by have:=of_decide_eq_false hb; omega
    exact h true ⟨fun _ i l hl hm x hx=>g2 i l (by have:=(List.getElem?_eq_some_iff.1 hl).1; omega) hl hm x hx,fun _=>rfl⟩
theorem use {f:FuncId} {a:List V} {r:V} {R:V→Prop} (h:K0G Tryz.prog glX f a fun v=>v=r) (hr:R r):K0G Tryz.prog glX f a R:=h.mono' fun v e=>by cases e; exact hr
def whoF (n:Nat) (T:List Nat):List Nat:=(List.range n).map fun i=>if i∈T then 1 else 0
theorem whoF_len (n:Nat) (T:List Nat):(whoF n T).length=n:=by simp [whoF]
theorem whoF_get {n i:Nat} (T:List Nat) (h:i<n):(whoF n T)[i]? = some (if i∈T then 1 else 0):=by simp [whoF,h]
theorem bl8_mem {s i:Nat}:i∈bl8 s↔i<8∧s.testBit i=true:=by simp [bl8,List.mem_filter]
theorem bl8_sorted (s:Nat):(bl8 s).Pairwise (· < ·):=List.Pairwise.filter _ (List.pairwise_lt_range)
def sumV (v:List Int) (q:List Nat):Int:=(q.map fun i=>v.getD i 0).sum
theorem sumV_ok {v:List Int} (hv : ∀ x∈v,0≤x∧x≤1000) : ∀ q:List Nat,0≤sumV v q∧sumV v q≤(q.length:Int) * 1000
 | []=>by simp [sumV]
 | i::q=>by
  have ih:=sumV_ok hv q
  have:0≤v.getD i 0∧v.getD i 0≤1000:=by
   by_cases h:i<v.length
   ·exact hv _ (List.mem_of_getElem? (getVa h))
   ·simp [List.getD,show v.length≤i from by omega]
  simp only [sumV,List.map_cons,List.sum_cons,List.length_cons] at *
  omega
theorem sumF_range (p:List (List It)) (x:It) (T:List Nat) : ∀ (k:Nat),k≤p.length→sumF (p.drop (p.length - k)) ((whoF p.length T).drop (p.length - k)) 1 x=needF p ((List.range' (p.length - k) k).filter fun i=>decide (i∈T)) x.1 x.2.1
 | 0,_=>by
  rw [Nat.sub_zero,List.drop_eq_nil_of_le (Nat.le_refl _)]
  simp [sumF,needF]
 | k+1,hk=>by
  have ih:=sumF_range p x T k (by omega)
  have hlt:p.length - (k+1)<p.length:=by omega
  have e:p.length - (k+1)+1=p.length - k:=by omega
  have h1:p.drop (p.length - (k+1))=p.getD (p.length - (k+1)) []::p.drop (p.length - k):=by
   rw [List.drop_eq_getElem_cons hlt,e]; congr 1; simp [List.getD,hlt]
  have h2:(whoF p.length T).drop (p.length - (k+1))=(if p.length - (k+1)∈T then 1 else 0)::(whoF p.length T).drop (p.length - k):=by
   rw [List.drop_eq_getElem_cons (by rw [whoF_len]; exact hlt),e]; congr 1; simp [whoF]
  rw [h1,h2,List.range'_succ,e]
  simp only [sumF]
  rw [ih]
  by_cases hT:p.length - (k+1)∈T
  ·rw [if_pos hT,if_pos rfl,List.filter_cons_of_pos (by simpa using hT)]
   simp [needF]
  ·rw [if_neg hT,if_neg (by simp),List.filter_cons_of_neg (by simpa using hT)]
   simp [needF]
theorem sorted_ext : ∀ {a b:List Nat},a.Pairwise (· < ·)→b.Pairwise (· < ·)→(∀ i,i∈a↔i∈b)→a=b
 | [],[],_,_,_=>rfl
 | [],y::b,_,_,h=>by have:=(h y).2 (by simp); cases this
 | x::a,[],_,_,h=>by have:=(h x).1 (by simp); cases this
 | x::a,y::b,ha,hb,h=>by
  have a1:=List.pairwise_cons.1 ha
  have b1:=List.pairwise_cons.1 hb
  have exy:x=y:=by
   have h1:=(h x).1 (by simp)
   have h2:=(h y).2 (by simp)
   rcases List.mem_cons.1 h1 with e | e
   ·exact e
   ·rcases List.mem_cons.1 h2 with e' | e'
    ·exact e'.symm
    ·have:=b1.1 x e; have:=a1.1 y e'; omega
  subst exy
  congr 1
  refine sorted_ext a1.2 b1.2 (fun i=>?_)
  constructor
  ·intro hi
   have hlt:=a1.1 i hi
   rcases List.mem_cons.1 ((h i).1 (by simp [hi])) with e | e
   ·omega
   ·exact e
  ·intro hi
   have hlt:=b1.1 i hi
   rcases List.mem_cons.1 ((h i).2 (by simp [hi])) with e | e
   ·omega
   ·exact e
theorem sumF_need {p:List (List It)} {T:List Nat} (x:It) (hT : ∀ i∈T,i<p.length) (hs:T.Pairwise (· < ·)):sumF p (whoF p.length T) 1 x=needF p T x.1 x.2.1:=by
 have:=sumF_range p x T p.length (Nat.le_refl _)
 rw [Nat.sub_self,List.drop_zero,List.drop_zero] at this
 rw [this]
 congr 1
 refine sorted_ext (List.Pairwise.filter _ (List.pairwise_lt_range' (s:=0) (n:=p.length))) hs (fun i=>?_)
 simp only [List.mem_filter,decide_eq_true_eq,List.mem_range'_1]
 exact ⟨fun h=>h.2,fun h=>⟨⟨by omega,by have:=hT i h; omega⟩,h⟩⟩
theorem need_zero {p:List (List It)} {T:List Nat} {a b:Int} (h : ∀ i∈T,hasF (p.getD i []) a b=0):needF p T a b=0:=by
 induction T with
 | nil=>rfl
 | cons i T ih =>
  simp only [needF,List.map_cons,List.sum_cons] at *
  rw [h i (by simp),ih (fun j hj=>h j (by simp [hj]))]
  rfl
theorem built_need {bx:List It} {p:List (List It)} {T:List Nat} (hb:G bx) (hp : ∀ l∈p,G l) (hT : ∀ i∈T,i<p.length) (hs:T.Pairwise (· < ·)):Built bx p (whoF p.length T) 1 ↔ ∀ a b,needF p T a b≤hasF bx a b:=by
 constructor
 ·intro h a b
  by_cases hz : ∀ i∈T,hasF (p.getD i []) a b=0
  ·rw [need_zero hz]; exact hb.pos a b
  ·obtain ⟨i,hz⟩:=Classical.not_forall.1 hz
   obtain ⟨hi,hne⟩:=Classical.not_imp.1 hz
   obtain ⟨y,hy,e1,e2⟩:=has_mem hne
   have:=h i _ (getPl (hT i hi)) (by rw [whoF_get T (hT i hi),if_pos hi]) y hy
   rw [sumF_need y hT hs,e1,e2] at this
   exact this
 ·intro h i l hl hw x hx
  rw [sumF_need x hT hs]
  exact h x.1 x.2.1
end Go.Proofs.YtmddjopahcbefabGreat
namespace Go.Proofs.YtmddjopahcbefabGreat.Clean
set_option linter.unusedVariables false
def forceN (n:Nat) (k:Nat→Prop):Prop:=match n with
 | 0=>k 0
 | m+1=>k (m+1)
def forceV (v:V) (k:V→Prop):Prop:=match v with
 | .raw x=>k (.raw x)
 | .ptr b i o=>k (.ptr b i o)
 | .sl b lo n=>k (.sl b lo n)
 | .lst s es=>k (.lst s es)
 | v=>k v
def forceRow:List V→(List V→Prop)→Prop
 | [],k=>k []
 | v::r,k=>forceV v fun v=>forceRow r fun r=>k (v::r)
def forceArg (v:V) (k:V→Prop):Prop:=match v with
 | .agg cs=>forceRow cs fun cs=>k (.agg cs)
 | .fn f a c=>forceRow a fun a=>forceRow c fun c=>k (.fn f a c)
 | v=>forceV v k
def forceArgs:List V→(List V→Prop)→Prop
 | [],k=>k []
 | v::r,k=>forceArg v fun v=>forceArgs r fun r=>k (v::r)
def forceRows:List (List V)→(List (List V)→Prop)→Prop
 | [],k=>k []
 | v::r,k=>forceRow v fun v=>forceRows r fun r=>k (v::r)
def forceO (o:O) (k:O→Prop):Prop:=match o with
 | .rows s true es=>k (.rows s true es)
 | .rows s false es=>forceRows es fun es=>k (.rows s false es)
 | .mp es=>k (.mp es)
 | .lp q=>k (.lp q)
 | .it x n l=>k (.it x n l)
def forceBs:List (Nat×O)→(List (Nat×O)→Prop)→Prop
 | [],k=>k []
 | (a,o)::r,k=>forceN a fun a=>forceO o fun o=>forceBs r fun r=>k ((a,o)::r)
def forceH (h:Hp) (k:Hp→Prop):Prop:=match h with
 | ⟨bs,n,fs⟩=>forceBs bs fun bs=>forceN n fun n=>k ⟨bs,n,fs⟩
def forceIds:List Id→(List Id→Prop)→Prop
 | [],k=>k []
 | .p n::r,k=>forceN n fun n=>forceIds r fun r=>k (.p n::r)
 | .m B j::r,k=>forceIds r fun r=>k (.m B j::r)
def keepOf (bs:List Id):Keep:=⟨[],bs.zipIdx,bs.length,[],[],[]⟩
def lentIds (h:Hp) (vs:List V):List Id:=(reach 200 h (refsL vs) []).filter fun b=>h.has b
theorem forceN_eq (n:Nat) (k:Nat→Prop):forceN n k=k n:=by cases n <;> rfl
theorem forceV_eq (v:V) (k:V→Prop):forceV v k=k v:=by cases v <;> rfl
theorem forceRow_eq : ∀ (l:List V) (k:List V→Prop),forceRow l k=k l
 | [],k=>rfl
 | v::r,k=>by rw [forceRow,forceV_eq,forceRow_eq]
theorem forceArg_eq (v:V) (k:V→Prop):forceArg v k=k v:=by
 cases v <;> first | exact forceRow_eq _ _ | (show forceRow _ _=_; rw [forceRow_eq,forceRow_eq]) | rfl
theorem forceArgs_eq : ∀ (l:List V) (k:List V→Prop),forceArgs l k=k l
 | [],k=>rfl
 | v::r,k=>by rw [forceArgs,forceArg_eq,forceArgs_eq]
theorem forceRows_eq : ∀ (l:List (List V)) (k:List (List V)→Prop),forceRows l k=k l
 | [],k=>rfl
 | v::r,k=>by rw [forceRows,forceRow_eq,forceRows_eq]
theorem forceO_eq (o:O) (k:O→Prop):forceO o k=k o:=by
 cases o with
 | rows s p es=>cases p with
  | true=>rfl
  | false=>exact forceRows_eq es _
 | mp es=>rfl
 | lp q=>rfl
 | it x n l=>rfl
theorem forceBs_eq : ∀ (l:List (Nat×O)) (k:List (Nat×O)→Prop),forceBs l k=k l
 | [],k=>rfl
 | (a,o)::r,k=>by rw [forceBs,forceN_eq,forceO_eq,forceBs_eq]
theorem forceH_eq (h:Hp) (k:Hp→Prop):forceH h k=k h:=by
 obtain ⟨bs,n,fs⟩:=h
 show forceBs bs _=_
 rw [forceBs_eq,forceN_eq]
theorem forceIds_eq : ∀ (l:List Id) (k:List Id→Prop),forceIds l k=k l
 | [],k=>rfl
 | .p n::r,k=>by rw [forceIds,forceN_eq,forceIds_eq]
 | .m B j::r,k=>by rw [forceIds,forceIds_eq]
theorem lent_eq (h:Hp) (vs:List V):lentOf h vs=keepOf (lentIds h vs):=rfl
def callsG (P:Program) (G:Nat→Option (List V)) (mode:FuncId→Nat) (post:FuncId→List V→Hp→Us→Hp) (rt:FuncId→List V→Us→V→(V→Prop)→Prop):Calling :=
 ⟨fun _=>none,mode,fun _=>false,KB P G,K0G P G,fun f args h k=>match mode f with
   | 3=>forceArgs args fun args=>forceIds (lentIds h args) fun ids=>guardB ((keepOf ids).ok&&bsOK h) (forceH (lentH h (keepOf ids)) fun h0=>KM P G f (trL (renOf (keepOf ids).blocks) args) h0 (post f args) fun v us=>guardB (mfit h (post f args h0 us) (keepOf ids).blocks) <| rt f args us v fun v =>
     forceH (mergeH h (keepOf ids) (post f args h0 us)) fun h' => forceV (v.tr (backT (keepOf ids).blocks (keepOf ids).nxt h.nxt)) fun v=>k v h')
   | _=>K P G f args h (fun _=>true) k,
  fun f args h b=>match mode f with | 3=>(lentOf h args).blocks.any fun p=>p.1.beq b | _=>true,true,0,G,fun _ _ _ _=>False,fun _=>true⟩
theorem callsG_ok {P:Program} {G:Nat→Option (List V)} {mode:FuncId→Nat} {post:FuncId→List V→Hp→Us→Hp} {rt:FuncId→List V→Us→V→(V→Prop)→Prop} (hrt : ∀ f args us v k,rt f args us v k → ∃ v', k v' ∧ ∀ {F:Nat→Prop} {w:World} {ν:Nu} {x:Value},rep F w ν v x→rep F w ν v' x):(callsG P G mode post rt).ok P:=by
 refine ⟨(fun _ _ h=>by cases h),fun _ _ _ _ _ h=>K_of_K0 h,fun _ _ _ _ _ h1 h2=>K_of_KB h1 h2,fun _ _ _ _ _ h=>K_of_K0t h,fun _ _ _ _ h hr=>h.mono hr,fun _ _ _ h=>h,?_,fun _ _ _ _ h=>h.elim⟩
 intro f args h R hc
 by_cases hm:mode f=3
 ·simp only [callsG,hm] at hc ⊢
  rw [forceArgs_eq,forceIds_eq,← lent_eq,guardB_iff,Bool.and_eq_true,forceH_eq] at hc
  obtain ⟨⟨hok,hbs⟩,hc⟩:=hc
  refine K_frame rfl hok hbs ?_
  intro ν F w xs g1 g2 g3
  refine (hc ν F w xs g1 g2 g3).mono fun e w' ⟨x,v,ν', F', h', z1,⟨es,z2,z3⟩,z4,z5,z6⟩=>?_
  have z3:=guardB_iff.1 z3
  obtain ⟨v', hk,hrv⟩:=hrt _ _ _ _ _ z3.2
  rw [forceH_eq,forceV_eq] at hk
  exact ⟨x,v', ν', F', h', z1,by rw [z2]; exact ⟨z3.1,hk⟩,z4,hrv z5,z6⟩
 ·simp only [callsG] at hc ⊢
  exact hc
noncomputable def cfgG (P:Program) (glob:Nat→Option (List V)) (mode:FuncId→Nat) (post:FuncId→List V→Hp→Us→Hp) (rt:FuncId→List V→Us→V→(V→Prop)→Prop) (enter:FuncId→Bool) (kps:FuncId→Nat→Option (List Tmp)):Cfg where
 C0:=callsG P glob mode post rt
 enter:=enter
 clean:=fun _=>true
 kps:=kps
theorem cfgG_ok {P:Program} {glob:Nat→Option (List V)} {mode:FuncId→Nat} {post:FuncId→List V→Hp→Us→Hp} {rt:FuncId→List V→Us→V→(V→Prop)→Prop} {enter:FuncId→Bool} {kps:FuncId→Nat→Option (List Tmp)} (hrt : ∀ f args us v k,rt f args us v k → ∃ v', k v' ∧ ∀ {F:Nat→Prop} {w:World} {ν:Nu} {x:Value},rep F w ν v x→rep F w ν v' x):(cfgG P glob mode post rt enter kps).ok P :=
 ⟨callsG_ok hrt,knowsY_none⟩
set_option linter.unusedSimpArgs false
noncomputable def WYKc (P:Program) (cfg:Cfg) (fuel:Nat) (f:FuncId) (fn:Func) (args:List V) (h:Hp) (R:V→Prop):Prop :=
 match fn.body with
 | some c=>guardB (Nat.ble args.length fn.ntmps&&Nat.ble args.length 1000) (WY P cfg fuel ⟨⟨h.nxt,[]⟩,h.nxt,none,fn.ntmps,f,0⟩ c (QendX P fn fun v _=>R v) ⟨start args,h⟩)
 | none=>False
theorem K_of_WYKc {P:Program} (hm:P.follows .mixedOrders=true) {cfg:Cfg} (hcf:cfg.ok P) (fuel:Nat) {f:FuncId} {fn:Func} (hf:P.funcs[f]? = some fn) {args:List V} {h:Hp} {R:V→Prop} (hw:WYKc P cfg fuel f fn args h R):K P cfg.glob f args h (fun b => !b.low h.nxt) fun v _=>R v:=by
 let cfg' : Cfg:={ cfg with enter:=fun _=>true,known:=fun _ _=>none,clean:=fun _=>true,spare:=fun _=>[] }
 have hc:(callY P cfg' (WY P cfg fuel) ⟨0,[]⟩ 0).c f args h (fun v _=>R v):=by
  show cY P cfg' (WY P cfg fuel) ⟨0,[]⟩ f args h (fun v _=>R v)
  unfold WYKc at hw
  split at hw
  ·rename_i c hb
   simp only [cY,cfg', cond_true,onSome_iff,Cfg.baseOf]
   exact ⟨fn,hf,c,hb,hw⟩
  ·exact hw.elim
 have:=(callY_ok (cfg:=cfg') ⟨hcf.c0,knowsY_none⟩ (WY_sound hm hcf fuel) ⟨0,[]⟩ 0).c f args h _ hc
 intro ν F w xs g1 g2 g3
 refine (this ν F w xs g1 g2 g3).mono fun e w' ⟨x,v,ν', F', h', z1,z2,z3,z4,z5,z6⟩=>?_
 refine ⟨x,v,ν', F', h', z1,z2,z3,z4,z5,fun b y hb ht=>z6 b y hb ?_⟩
 have ht:(!b.low h.nxt)=false:=ht
 show tY cfg' ⟨0,[]⟩ f args h b=false
 simp only [tY,cfg', cond_true,Cfg.baseOf,Id.lows,List.any_nil,Bool.or_false]
 exact ht
noncomputable def WYB (P:Program) (cfg:Cfg) (fuel:Nat) (f:FuncId) (fn:Func) (args:List V) (h:Hp) (R:V→Prop):Prop :=
 match fn.body with
 | some c=>guardB (Nat.ble args.length fn.ntmps&&Nat.ble args.length 1000) (WY P cfg fuel ⟨⟨h.nxt,[]⟩,h.nxt,none,fn.ntmps,f,0⟩ c (QendX P fn fun v h' => dataT h.nxt (gcH h.nxt v h') v R) ⟨start args,h⟩)
 | none=>False
theorem KB_of_WYB {P:Program} (hm:P.follows .mixedOrders=true) {cfg:Cfg} (hcf:cfg.ok P) (fuel:Nat) {f:FuncId} {fn:Func} (hf:P.funcs[f]? = some fn) {args:List V} {h:Hp} {R:V→Prop} (hfs:h.fs=[]) (hw:WYB P cfg fuel f fn args h R):KB P cfg.glob f args h R:=by
 let cfg' : Cfg:={ cfg with enter:=fun _=>true,known:=fun _ _=>none,clean:=fun _=>true,spare:=fun _=>[] }
 have hc:(callY P cfg' (WY P cfg fuel) ⟨0,[]⟩ 0).c f args h (fun v h' => dataT h.nxt h' v R):=by
  show cY P cfg' (WY P cfg fuel) ⟨0,[]⟩ f args h (fun v h' => dataT h.nxt h' v R)
  unfold WYB at hw
  split at hw
  ·rename_i c hb
   simp only [cY,cfg', cond_true,onSome_iff,Cfg.baseOf]
   exact ⟨fn,hf,c,hb,hw⟩
  ·exact hw.elim
 have:=(callY_ok (cfg:=cfg') ⟨hcf.c0,knowsY_none⟩ (WY_sound hm hcf fuel) ⟨0,[]⟩ 0).c f args h _ hc
 intro ν F w xs g1 g2 g3
 refine (this ν F w xs g1 g2 g3).mono fun e w' ⟨x,v,ν', F', h', z1,z2,z3,z4,z5,z6⟩=>?_
 obtain ⟨d,d1,d2⟩:=dataT_D z2
 refine ⟨x,v,d,ν', F', h', z1,d2,d1,z3,z4,z5,fun b y hb=>z6 b y hb ?_⟩
 show tY cfg' ⟨0,[]⟩ f args h b=false
 simp only [tY,cfg', cond_true,Cfg.baseOf,Id.lows,List.any_nil,Bool.or_false]
 have hlt:=ν.lt _ _ hb
 cases b with
 | p a =>
  have:a<h.nxt:=by have h2:a<ν.nxt:=hlt; rw [g1.nxt] at h2; exact h2
  show (!Nat.blt a h.nxt)=false
  rw [show Nat.blt a h.nxt=true from Nat.ble_eq_true_of_le this]; rfl
 | m B j =>
  have h2:j<ν.cnt B:=hlt
  rw [g1.cnt B,hfs] at h2
  exact absurd h2 (Nat.not_lt_zero _)
section
variable {ν:Nu} {F:Nat→Prop} {h:Hp} {w w' : World}
end
end Go.Proofs.YtmddjopahcbefabGreat.Clean
namespace Go.Proofs.YtmddjopahcbefabGreat
open Go Go.Proofs.YtmddjopahcbefabGreat.Clean
set_option linter.unusedVariables false
set_option maxRecDepth 100000
def kpS:FuncId→Nat→Option (List Tmp):=slotsOf [(31,0,[1,2,7,12,13,14]),(31,2,[1,2,7,9,12,13,14,18,19,20]),(61,0,[4,6,7,22,23,24]),(61,2,[6,7,35,36,37]),(33,0,[0,1,4,5,6]),(66,0,[0,1,9,10,11]),(3,0,[0,1,2,3,9,11,13,87,88,89])]
noncomputable def cfS:Cfg:=cfgM Tryz.prog glX moC tyC (inN [62,85,68,60,90,65,88,28,64,89,102,49]) kpS
def shr (s:List Nat×Int):List V:=[.lst 1 (ul s.1),iv s.2]
def shl (l:List (List Nat×Int)):List (List V):=l.map shr
noncomputable def sh61a (b:Ch) (u:Nat) (q:List Nat) (n:Nat) (v:Int) (w:List Nat) (k:Nat):St:=⟨mkT [(4,V.ptr (Id.p 0) 0 0),(6,V.ptr (Id.p 1) 0 0),(7,V.ptr (Id.p 2) 0 0),(22,V.lst u (nn q)),(23,iv ((nn q).length:Int)),(24,iv (k:Int))],⟨[(0,O.rows 3 false [chr b]),(1,O.rows 2 false [[nilS,iv (0:Int)]]),(2,O.rows 2 false [[V.sl (Id.p 3) 0 n,iv v]]),(3,O.rows 1 true (ul w))],4,[]⟩⟩
noncomputable def sh61b (u:Nat) (q:List Nat) (n:Nat) (v:Int) (w:List Nat) (k:Nat):St:=⟨mkT [(6,V.ptr (Id.p 0) 0 0),(7,V.ptr (Id.p 1) 0 0),(35,V.lst u (nn q)),(36,iv ((nn q).length:Int)),(37,iv (k:Int))],⟨[(0,O.rows 2 false [[nilS,iv (0:Int)]]),(1,O.rows 2 false [[V.sl (Id.p 2) 0 n,iv v]]),(2,O.rows 1 true (ul w))],3,[]⟩⟩
noncomputable def sh31n (x y:List Ch) (n:Nat) (i:Nat):St:=⟨mkT [(1,V.lst 3 (chl y)),(2,iv (n:Int)),(7,nilS),(12,V.lst 3 (chl x)),(13,iv ((chl x).length:Int)),(14,iv (i:Int))],⟨[],0,[]⟩⟩
noncomputable def sh31s (x y:List Ch) (n:Nat) (l:List (List Nat×Int)) (i:Nat):St:=⟨mkT [(1,V.lst 3 (chl y)),(2,iv (n:Int)),(7,V.sl (Id.p 0) 0 l.length),(12,V.lst 3 (chl x)),(13,iv ((chl x).length:Int)),(14,iv (i:Int))],⟨[(0,O.rows 2 true (shl l))],1,[]⟩⟩
noncomputable def sh33 (l:List (List Nat×Int)) (c:List Nat×Int) (k:Nat):St:=⟨mkT [(0,V.lst 2 (shl l)),(1,V.fn (Fn.func 34) [] []),(4,V.ptr (Id.p 0) 0 0),(5,V.ptr (Id.p 1) 0 0),(6,iv (k:Int))],⟨[(0,O.rows 2 false [[nilS,iv (0:Int)]]),(1,O.rows 2 false [shr c])],2,[]⟩⟩
noncomputable def sh66 (a b:List Nat) (k:Nat):St:=⟨mkT [(0,V.lst 1 (ul a)),(1,V.lst 1 (ul b)),(9,V.lst 1 (ul a)),(10,iv ((ul a).length:Int)),(11,iv (k:Int))],⟨[],0,[]⟩⟩
noncomputable def sh31nb (x y:List Ch) (n:Nat) (i:Nat) (a:Ch) (k:Nat):St:=⟨mkT [(1,V.lst 3 (chl y)),(2,iv (n:Int)),(7,nilS),(9,V.ptr (Id.p 0) 0 0),(12,V.lst 3 (chl x)),(13,iv ((chl x).length:Int)),(14,iv (i:Int)),(18,V.lst 3 (chl y)),(19,iv ((chl y).length:Int)),(20,iv (k:Int))],⟨[(0,O.rows 3 false [chr a])],1,[]⟩⟩
noncomputable def sh31sb (x y:List Ch) (n:Nat) (l:List (List Nat×Int)) (i:Nat) (a:Ch) (k:Nat):St:=⟨mkT [(1,V.lst 3 (chl y)),(2,iv (n:Int)),(7,V.sl (Id.p 0) 0 l.length),(9,V.ptr (Id.p 1) 0 0),(12,V.lst 3 (chl x)),(13,iv ((chl x).length:Int)),(14,iv (i:Int)),(18,V.lst 3 (chl y)),(19,iv ((chl y).length:Int)),(20,iv (k:Int))],⟨[(0,O.rows 2 true (shl l)),(1,O.rows 3 false [chr a])],2,[]⟩⟩
set_option linter.unusedSimpArgs false
set_option maxRecDepth 10000
theorem hcSh:cfS.ok Tryz.prog:=⟨hcM.c0,hcM.known⟩
theorem ul_length (l:List Nat):(ul l).length=l.length:=by simp [ul]
theorem shl_length (l:List (List Nat×Int)):(shl l).length=l.length:=by simp [shl]
theorem ulel {l:List Nat} {i n:Nat} {k:Int→Prop} (h:l[i]? = some n) (hk:k (n:Int)):onSome (ul l)[i]? fun row=>onSome row[0]? fun v=>onIntK IntKind.u8 v fun n=>k n:=onSome_mk (ul_get h) hk
theorem cmp66 {a b:List Nat} {R:V→Prop} (ha:a.length≤1000) (h : ∀ n,R (iv n)):K0G Tryz.prog glX 66 [.lst 1 (ul a),.lst 1 (ul b)] R:=by
 refine K0_of_WY0 hmX hcSh 3000 Tryz.func66 (see (p:=La 0 [(0:Tmp),(1:Tmp),(9:Tmp),(10:Tmp),(11:Tmp)] (WY Tryz.prog cfS 2995 (Env.mk (Bs.mk 0 []) 0 none 36 66 0) (cdAt [1,0,1,0,0] (bodyOf Tryz.f66))) (Qblk 0 (Qthen (WY Tryz.prog cfS 2998 (Env.mk (Bs.mk 0 []) 0 none 36 66 0) (cdAt [1,1] (bodyOf Tryz.f66)) (QendX Tryz.prog Tryz.f66 fun v h=>R (frzW h v))) (QendX Tryz.prog Tryz.f66 fun v h=>R (frzW h v)))) (St.mk (mkT [(0,V.lst 1 (ul a)),(1,V.lst 1 (ul b)),(9,V.lst 1 (ul a)),(10,iv (↑(ul a).length:Int)),(11,iv (0:Int))]) (Hp.mk [] 0 []))) (by kernel_rfl) ?_)
 refine La.of (σ:=Nat) (fun k=>sh66 a b k) (fun k=>k≤a.length) (fun k=>a.length - k) 0 (by kernel_rfl) (by omega) ?_
 rintro k g J hJ
 refine see (p:=ifB (decide ((↑k:Int)<(↑(ul a).length:Int))) (onSome (ul a)[k]? fun row=>onSome row[0]? fun v=>onIntK IntKind.u8 v fun n=>ifB (decide ((↑k:Int) ≥ (↑(ul b).length:Int))) (R (iv (1:Int))) (onSome (ul b)[k]? fun row=>onSome row[0]? fun v=>onIntK IntKind.u8 v fun n_1=>ifB (n != n) (ifB (n_1 != n_1) (J (St.mk (mkT [(0,V.lst 1 (ul a)),(1,V.lst 1 (ul b)),(9,V.lst 1 (ul a)),(10,iv (↑(ul a).length:Int)),(11,iv (IntKind.i64.wrap ((↑k:Int)+(1:Int))))]) (Hp.mk [] 0 []))) (R (iv (-1:Int)))) (ifB (n_1 != n_1) (R (iv (1:Int))) (ifB (decide (n<n_1)) (R (iv (-1:Int))) (ifB (decide (n > n_1)) (R (iv (1:Int))) (J (St.mk (mkT [(0,V.lst 1 (ul a)),(1,V.lst 1 (ul b)),(9,V.lst 1 (ul a)),(10,iv (↑(ul a).length:Int)),(11,iv (IntKind.i64.wrap ((↑k:Int)+(1:Int))))]) (Hp.mk [] 0 [])))))))) (ifB (decide ((↑(ul a).length:Int)<(↑(ul b).length:Int))) (R (iv (-1:Int))) (R (iv (0:Int))))) (by kernel_rfl) ?_
 have hlt : ∀ d:decide ((k:Int)<((ul a).length:Int))=true,k<a.length:=fun d=>by
  have:=of_decide_eq_true d
  rw [ul_length] at this
  omega
 refine ifB_mk (fun d=>?_) (fun d=>ifB_mk (fun _=>h _) (fun _=>h _))
 have hk:=hlt d
 obtain ⟨x,hx⟩ : ∃ x,a[k]? = some x:=⟨a[k],by simp [hk]⟩
 refine ulel hx (ifB_mk (fun _=>h _) (fun e=>?_))
 have hb:k<b.length:=by
  have:=of_decide_eq_false e
  rw [ul_length] at this
  omega
 obtain ⟨y,hy⟩ : ∃ y,b[k]? = some y:=⟨b[k],by simp [hb]⟩
 refine ulel hy (ifB_f (by simp) (ifB_f (by simp) (ifB_mk (fun _=>h _) (fun _=>ifB_mk (fun _=>h _) (fun _=>?_)))))
 rw [wr1i hk (by omega)]
 exact hJ (k+1) hk (by omega)
theorem better34 {a b:List Nat×Int} {R:V→Prop} (ha:a.1.length≤1000) (h : ∀ n,(b.2<a.2→n<0)→(a.2<b.2→0<n)→R (iv n)):K0G Tryz.prog glX 34 [.agg (shr a),.agg (shr b)] R:=by
 refine K0_of_WY0 hmX hcSh 3000 Tryz.func34 (see (p:=ifB (b.2 != b.2) (ifB (a.2 != a.2) (K0G Tryz.prog glX 66 [V.lst 1 (ul a.1),V.lst 1 (ul b.1)] fun v=>onIntK IntKind.i64 v fun n=>ifB (n != (0:Int)) (R (iv n)) (R (iv (0:Int)))) (K0G Tryz.prog glX 66 [V.lst 1 (ul a.1),V.lst 1 (ul b.1)] fun v=>onIntK IntKind.i64 v fun n=>R (iv (-1:Int)))) (ifB (a.2 != a.2) (K0G Tryz.prog glX 66 [V.lst 1 (ul a.1),V.lst 1 (ul b.1)] fun v=>onIntK IntKind.i64 v fun n=>R (iv (1:Int))) (ifB (decide (b.2<a.2)) (K0G Tryz.prog glX 66 [V.lst 1 (ul a.1),V.lst 1 (ul b.1)] fun v=>onIntK IntKind.i64 v fun n=>R (iv (-1:Int))) (ifB (decide (b.2 > a.2)) (K0G Tryz.prog glX 66 [V.lst 1 (ul a.1),V.lst 1 (ul b.1)] fun v=>onIntK IntKind.i64 v fun n=>R (iv (1:Int))) (K0G Tryz.prog glX 66 [V.lst 1 (ul a.1),V.lst 1 (ul b.1)] fun v=>onIntK IntKind.i64 v fun n=>ifB (n != (0:Int)) (R (iv n)) (R (iv (0:Int)))))))) (by kernel_rfl) ?_)
 refine ifB_f (by simp) (ifB_f (by simp) (ifB_mk (fun c=>?_) (fun c=>ifB_mk (fun d=>?_) (fun d=>?_))))
 ·have c:=of_decide_eq_true c
  exact cmp66 ha (fun n=>onIntK_iv (h _ (fun _=>by omega) (fun q=>by omega)))
 ·have d:=of_decide_eq_true d
  exact cmp66 ha (fun n=>onIntK_iv (h _ (fun q=>by omega) (fun _=>by omega)))
 ·have c:=of_decide_eq_false c
  have d:=of_decide_eq_false d
  exact cmp66 ha (fun n=>onIntK_iv (ifB_mk (fun _=>h _ (fun q=>by omega) (fun q=>by omega)) (fun _=>h _ (fun q=>by omega) (fun q=>by omega))))
theorem min33 {l:List (List Nat×Int)} {R:V→Prop} (hne:l≠[]) (hl:l.length≤1000000) (h1000 : ∀ c∈l,c.1.length≤1000) (h : ∀ c∈l,(∀ c' ∈ l,c'.2≤c.2)→R (.agg (shr c))):K0G Tryz.prog glX 33 [.lst 2 (shl l),.fn (.func 34) [] []] R:=by
 refine K0_of_WY0 hmX hcSh 3000 Tryz.func33 (see (p:=ifB (decide ((↑(shl l).length:Int)<(1:Int))) False (onSome (shl l)[0]? fun row=>onCons (List.drop 0 row) fun u r=>onLst u fun s es=>onCons r fun u r=>onIntK IntKind.i64 u fun n=>La 0 [(0:Tmp),(1:Tmp),(4:Tmp),(5:Tmp),(6:Tmp)] (WY Tryz.prog cfS 2993 (Env.mk (Bs.mk 0 []) 0 none 33 33 0) (cdAt [1,1,1,0,1,0,0] (bodyOf Tryz.f33))) (Qblk 0 (Qthen (WY Tryz.prog cfS 2996 (Env.mk (Bs.mk 0 []) 0 none 33 33 0) (cdAt [1,1,1,1] (bodyOf Tryz.f33)) (QendX Tryz.prog Tryz.f33 fun v h=>R (frzW h v))) (QendX Tryz.prog Tryz.f33 fun v h=>R (frzW h v)))) (St.mk (mkT [(0,V.lst 2 (shl l)),(1,V.fn (Fn.func (34:FuncId)) [] []),(4,V.ptr (Id.p 0) 0 0),(5,V.ptr (Id.p 1) 0 0),(6,iv (1:Int))]) (Hp.mk [(0,O.rows 2 false [[nilS,iv (0:Int)]]),(1,O.rows 2 false [[V.lst s es,iv n]])] 2 [])))) (by kernel_rfl) ?_)
 obtain ⟨c0,cr,rfl⟩ : ∃ c r,l=c::r:=by cases l with | nil=>exact (hne rfl).elim | cons c r=>exact ⟨c,r,rfl⟩
 generalize hcs:c0::cr=l at *
 have hl1:1≤l.length:=by rw [← hcs]; simp
 rw [shl_length]
 refine ifB_f (by simp; omega) ?_
 refine onSome_mk (x:=shr c0) (by rw [← hcs]; rfl) (onCons_cons (onLst_lst (onCons_cons (onIntK_iv ?_))))
 refine La.of (σ:=(List Nat×Int)×Nat) (fun x=>sh33 l x.1 x.2) (fun x=>x.1∈l∧x.2≤l.length ∧ ∀ i c', i<x.2→l[i]? = some c' → c'.2≤x.1.2) (fun x=>l.length - x.2) (c0,1) (by kernel_rfl) ⟨by rw [← hcs]; simp,hl1,fun i c' hi hc' => by
  have:i=0:=by simp only at hi; omega
  subst this
  rw [← hcs] at hc'
  simp only [List.getElem?_cons_zero,Option.some.injEq] at hc'
  subst hc'
  simp⟩ ?_
 rintro ⟨c,k⟩ ⟨g1,g2,g3⟩ J hJ
 simp only at g1 g2 g3
 refine see (p:=ifB (decide ((↑k:Int)<(↑(shl l).length:Int))) (onSome (shl l)[k]? fun row=>onCons (List.drop 0 row) fun u r=>onLst u fun s es=>onCons r fun u r=>onIntK IntKind.i64 u fun n=>K0G Tryz.prog glX 34 [V.agg [V.lst s es,iv n],V.agg [V.lst 1 (ul c.1),iv c.2]] fun v=>onIntK IntKind.i64 v fun n=>ifB (decide (n<(0:Int))) (onSome (shl l)[k]? fun row=>onCons (List.drop 0 row) fun u r=>onLst u fun s es=>onCons r fun u r=>onIntK IntKind.i64 u fun n=>J (St.mk (mkT [(0,V.lst 2 (shl l)),(1,V.fn (Fn.func (34:FuncId)) [] []),(4,V.ptr (Id.p 0) 0 0),(5,V.ptr (Id.p 1) 0 0),(6,iv (IntKind.i64.wrap ((↑k:Int)+(1:Int))))]) (Hp.mk [(0,O.rows 2 false [[nilS,iv (0:Int)]]),(1,O.rows 2 false [[V.lst s es,iv n]])] 2 []))) (J (St.mk (mkT [(0,V.lst 2 (shl l)),(1,V.fn (Fn.func (34:FuncId)) [] []),(4,V.ptr (Id.p 0) 0 0),(5,V.ptr (Id.p 1) 0 0),(6,iv (IntKind.i64.wrap ((↑k:Int)+(1:Int))))]) (Hp.mk [(0,O.rows 2 false [[nilS,iv (0:Int)]]),(1,O.rows 2 false [[V.lst 1 (ul c.1),iv c.2]])] 2 [])))) (R (V.agg [V.lst 1 (ul c.1),iv c.2]))) (by kernel_rfl) ?_
 rw [shl_length]
 refine ifB_mk (fun hb=>?_) (fun hb=>?_)
 ·have hlt:k<l.length:=by have:=of_decide_eq_true hb; omega
  obtain ⟨x,hx⟩ : ∃ x,l[k]? = some x:=⟨l[k],by simp [hlt]⟩
  have hxm:=List.mem_of_getElem? hx
  have hrow:(shl l)[k]? = some (shr x):=by simp [shl,hx]
  rw [wr1i hlt (by omega)]
  refine onSome_mk hrow (onCons_cons (onLst_lst (onCons_cons (onIntK_iv ?_))))
  refine better34 (a:=x) (b:=c) (h1000 x hxm) (fun n hn1 hn2=>onIntK_iv (ifB_mk (fun hn=>?_) (fun hn=>?_)))
  ·refine onSome_mk hrow (onCons_cons (onLst_lst (onCons_cons (onIntK_iv ?_))))
   have hge:c.2≤x.2:=by have:=of_decide_eq_true hn; omega
   refine hJ (x,k+1) ⟨hxm,by simp only; omega,fun i c' hi hc' => ?_⟩ (by simp only; omega)
   simp only at hi ⊢
   rcases Nat.lt_succ_iff_lt_or_eq.1 hi with q | q
   ·have:=g3 i c' q hc'; omega
   ·subst q; rw [hx] at hc'; cases hc'; omega
  ·have hge:x.2≤c.2:=by have:=of_decide_eq_false hn; omega
   refine hJ (c,k+1) ⟨g1,by simp only; omega,fun i c' hi hc' => ?_⟩ (by simp only; omega)
   simp only at hi ⊢
   rcases Nat.lt_succ_iff_lt_or_eq.1 hi with q | q
   ·exact g3 i c' q hc'
   ·subst q; rw [hx] at hc'; cases hc'; exact hge
 ·have hk:k=l.length:=by have:=of_decide_eq_false hb; omega
  refine h c g1 (fun c' hc' => ?_)
  obtain ⟨i,hi⟩:=List.getElem?_of_mem hc'
  exact g3 i c' (by rw [hk]; exact (List.getElem?_eq_some_iff.1 hi).1) hi
def wS (n:Nat) (S T:List Nat):List Nat:=(List.range n).map fun i=>if i∈T then 2 else if i∈S then 1 else 0
theorem wS_len (n:Nat) (S T:List Nat):(wS n S T).length=n:=by simp [wS]
theorem wS_get {n i:Nat} (S T:List Nat) (h:i<n):(wS n S T)[i]? = some (if i∈T then 2 else if i∈S then 1 else 0):=by simp [wS,h]
theorem wS_zero (n:Nat):List.replicate n [V.raw (Value.int IntKind.u8 (0:Int))]=ul (wS n [] []):=by
 apply List.ext_getElem?
 intro i
 by_cases hi:i<n
 ·rw [ul_get (wS_get [] [] hi)]
  simp [hi,sv,u8v]
 ·rw [List.getElem?_eq_none_iff.2 (by simp; omega),List.getElem?_eq_none_iff.2 (by rw [ul_length,wS_len]; omega)]
theorem wS_set1 {n m:Nat} {S S' : List Nat} (hS : ∀ i,i∈S' ↔ i∈S∨i=m):(wS n S []).set m 1=wS n S' []:=by
 apply List.ext_getElem?
 intro i
 rw [List.getElem?_set]
 by_cases hi:i<n
 ·rw [wS_get S [] hi,wS_get S' [] hi,wS_len]
  by_cases e:m=i
  ·subst e; simp [hi,(hS m).2 (.inr rfl)]
  ·have:i∈S' ↔ i∈S:=by rw [hS]; exact ⟨fun h=>h.resolve_right (fun q=>e q.symm),.inl⟩
   simp [e,this]
 ·rw [List.getElem?_eq_none_iff.2 (by rw [wS_len]; omega),List.getElem?_eq_none_iff.2 (by rw [wS_len]; omega),wS_len]
  split
  ·simp; omega
  ·rfl
theorem wS_set2 {n m:Nat} {S T T' : List Nat} (hT : ∀ i,i∈T' ↔ i∈T∨i=m):(wS n S T).set m 2=wS n S T' := by
 apply List.ext_getElem?
 intro i
 rw [List.getElem?_set]
 by_cases hi:i<n
 ·rw [wS_get S T hi,wS_get S T' hi,wS_len]
  by_cases e:m=i
  ·subst e; simp [hi,(hT m).2 (.inr rfl)]
  ·have:i∈T' ↔ i∈T:=by rw [hT]; exact ⟨fun h=>h.resolve_right (fun q=>e q.symm),.inl⟩
   simp [e,this]
 ·rw [List.getElem?_eq_none_iff.2 (by rw [wS_len]; omega),List.getElem?_eq_none_iff.2 (by rw [wS_len]; omega),wS_len]
  split
  ·simp; omega
  ·rfl
theorem ul_setv (l:List Nat) (m z:Nat) {row:List V} (hr:row.drop 1=[]):(ul l).set (0+m) (V.raw (Value.int IntKind.u8 (z:Int))::(List.append ([]:List V)) (List.drop 1 row))=ul (l.set m z):=by
 rw [hr,Nat.zero_add]
 show (ul l).set m [sv z]=_
 simp only [ul]
 rw [List.map_set]
theorem take_mem {q:List Nat} {k m:Nat} (h:q[k]? = some m) (i:Nat):i∈q.take (k+1)↔i∈q.take k∨i=m:=by
 rw [List.take_add_one,h]
 simp
theorem shareOf61 {a b:Ch} {n:Nat} {R:V→Prop} (ha:a.1<256) (hb:b.1<256) (hn:n≤1000) (hia : ∀ i∈bl8 a.1,i<n) (hib : ∀ i∈bl8 b.1,i<n) (hva:0≤a.2.1∧a.2.1≤1000000000) (hvb:0≤b.2.1∧b.2.1≤1000000000)
  (h:R (.agg (shr (wS n (bl8 a.1) (bl8 b.1),a.2.1+b.2.1)))):K0G Tryz.prog glX 61 [.agg (chr a),.agg (chr b),iv (n:Int)] R:=by
 refine K0_of_WY0 hmX hcSh 3000 Tryz.func61 (see (p:=need (n≤n) (need (1 * n≤140737488355328) (need (n≤9223372036854775807) (K0G Tryz.prog glX 40 [V.raw (Value.int IntKind.u8 (↑a.1:Int))] fun v=>onLst v fun s es=>La 0 [(4:Tmp),(6:Tmp),(7:Tmp),(22:Tmp),(23:Tmp),(24:Tmp)] (WY Tryz.prog cfS 2994 (Env.mk (Bs.mk 0 []) 0 none 47 61 0) (cdAt [1,1,0,1,0,0] (bodyOf Tryz.f61))) (Qblk 0 (Qthen (WY Tryz.prog cfS 2997 (Env.mk (Bs.mk 0 []) 0 none 47 61 0) (cdAt [1,1,1] (bodyOf Tryz.f61)) (QendX Tryz.prog Tryz.f61 fun v h=>R (frzW h v))) (QendX Tryz.prog Tryz.f61 fun v h=>R (frzW h v)))) (St.mk (mkT [(4,V.ptr (Id.p 0) 0 0),(6,V.ptr (Id.p 1) 0 0),(7,V.ptr (Id.p 2) 0 0),(22,V.lst s es),(23,iv (↑es.length:Int)),(24,iv (0:Int))]) (Hp.mk [(0,O.rows 3 false [[V.raw (Value.int IntKind.u8 (↑b.1:Int)),iv b.2.1,V.lst b.2.2.2 (itl b.2.2.1)]]),(1,O.rows 2 false [[nilS,iv (0:Int)]]),(2,O.rows 2 false [[V.sl (Id.p 3) 0 n,iv (IntKind.i64.wrap (a.2.1+b.2.1))]]),(3,O.rows 1 true (List.replicate n [V.raw (Value.int IntKind.u8 (0:Int))]))] 4 [])))))) (by kernel_rfl) ?_)
 refine need_mk ⟨Nat.le_refl _,need_mk ⟨by omega,need_mk ⟨by omega,?_⟩⟩⟩
 rw [wr (n:=a.2.1+b.2.1) (by omega) (by omega),wS_zero]
 obtain ⟨u,hu,hN⟩:=lsN_isL (bl8 a.1)
 refine list90 ha (onLst_isL hN ?_)
 generalize hq:bl8 a.1=q at h hia hu
 have hq8:q.length≤8:=hq ▸ bl8_len a.1
 obtain ⟨v,hv⟩ : ∃ v,v=a.2.1+b.2.1:=⟨_,rfl⟩
 rw [← hv] at h ⊢
 refine La.of (σ:=Nat) (fun k=>sh61a b u q n v (wS n (q.take k) []) k) (fun k=>k≤q.length) (fun k=>q.length - k) 0 (by kernel_rfl) (by omega) ?_
 rintro k g J hJ
 obtain ⟨w,hw⟩ : ∃ w,w=wS n (q.take k) []:=⟨_,rfl⟩
 rw [← hw]
 refine see (p:=ifB (decide ((↑k:Int)<(↑(nn q).length:Int))) (need (u=1) (onSome (nn q)[k]? fun row=>onSome row[0]? fun v_1=>onIntK IntKind.i64 v_1 fun n_1=>onNat n_1 fun m=>need (m<n) (onSome (ul w)[0+m]? fun row=>guardB ((0+1).ble row.length) (J (St.mk (mkT [(4,V.ptr (Id.p 0) 0 0),(6,V.ptr (Id.p 1) 0 0),(7,V.ptr (Id.p 2) 0 0),(22,V.lst u (nn q)),(23,iv (↑(nn q).length:Int)),(24,iv (IntKind.i64.wrap ((↑k:Int)+(1:Int))))]) (Hp.mk [(0,O.rows 3 false [[V.raw (Value.int IntKind.u8 (↑b.1:Int)),iv b.2.1,V.lst b.2.2.2 (itl b.2.2.1)]]),(1,O.rows 2 false [[nilS,iv (0:Int)]]),(2,O.rows 2 false [[V.sl (Id.p 3) 0 n,iv v]]),(3,O.rows 1 true ((ul w).set (0+m) (V.raw (Value.int IntKind.u8 (1:Int))::(List.append []) (List.drop 1 row))))] 4 [])))))) (K0G Tryz.prog glX 40 [V.raw (Value.int IntKind.u8 (↑b.1:Int))] fun v_1=>onLst v_1 fun s es=>La 0 [(6:Tmp),(7:Tmp),(35:Tmp),(36:Tmp),(37:Tmp)] (WY Tryz.prog cfS 2993 (Env.mk (Bs.mk 0 []) 0 none 47 61 2) (cdAt [1,1,1,0,1,0,0] (bodyOf Tryz.f61))) (Qblk 2 (Qthen (WY Tryz.prog cfS 2996 (Env.mk (Bs.mk 0 []) 0 none 47 61 0) (cdAt [1,1,1,1] (bodyOf Tryz.f61)) (QendX Tryz.prog Tryz.f61 fun v h=>R (frzW h v))) (QendX Tryz.prog Tryz.f61 fun v h=>R (frzW h v)))) (St.mk (mkT [(6,V.ptr (Id.p 0) 0 0),(7,V.ptr (Id.p 1) 0 0),(35,V.lst s es),(36,iv (↑es.length:Int)),(37,iv (0:Int))]) (Hp.mk [(0,O.rows 2 false [[nilS,iv (0:Int)]]),(1,O.rows 2 false [[V.sl (Id.p 2) 0 n,iv v]]),(2,O.rows 1 true (ul w))] 3 [])))) (by kernel_rfl) ?_
 refine ifB_mk (fun d=>?_) (fun d=>?_)
 ·have hk:k<q.length:=by have:=of_decide_eq_true d; rw [nn_length] at this; omega
  obtain ⟨m,hm⟩ : ∃ m,q[k]? = some m:=⟨q[k],by simp [hk]⟩
  have hmn:=hia m (List.mem_of_getElem? hm)
  refine need_mk ⟨hu.resolve_right (by rintro rfl; simp at hk),nel hm (onNat_c (need_mk ⟨hmn,onSome_mk (x:=[sv (if m∈([]:List Nat) then 2 else if m∈q.take k then 1 else 0)]) ?_ (guardB_mk rfl ?_)⟩))⟩
  ·rw [hw,Nat.zero_add]; exact ul_get (wS_get _ _ hmn)
  ·rw [wr1i hk (by omega)]
   have e:=ul_setv w m 1 (row:=[sv (if m∈([]:List Nat) then 2 else if m∈q.take k then 1 else 0)]) rfl
   have:=hJ (k+1) hk (by omega)
   rw [← wS_set1 (S:=q.take k) (take_mem hm),← hw] at this
   refine hJ' ?_ this
   simp only [sh61a]
   rw [← e]
   rfl
 ·have hk:k=q.length:=by have:=of_decide_eq_false d; rw [nn_length] at this; omega
  obtain ⟨u2,hu2,hN2⟩:=lsN_isL (bl8 b.1)
  refine list90 hb (onLst_isL hN2 ?_)
  rw [hk,List.take_length] at hw
  generalize hq2:bl8 b.1=q2 at h hib hu2
  have hq82:q2.length≤8:=hq2 ▸ bl8_len b.1
  clear hJ
  rw [hw]
  refine La.of (σ:=Nat) (fun k=>sh61b u2 q2 n v (wS n q (q2.take k)) k) (fun k=>k≤q2.length) (fun k=>q2.length - k) 0 (by kernel_rfl) (by omega) ?_
  clear hw w hk d g
  rintro k g I hI
  obtain ⟨w,hw⟩ : ∃ w,w=wS n q (q2.take k):=⟨_,rfl⟩
  rw [← hw]
  refine see (p:=ifB (decide ((↑k:Int)<(↑(nn q2).length:Int))) (need (u2=1) (onSome (nn q2)[k]? fun row=>onSome row[0]? fun v_1=>onIntK IntKind.i64 v_1 fun n_1=>onNat n_1 fun m=>need (m<n) (onSome (ul w)[0+m]? fun row=>guardB ((0+1).ble row.length) (I (St.mk (mkT [(6,V.ptr (Id.p 0) 0 0),(7,V.ptr (Id.p 1) 0 0),(35,V.lst u2 (nn q2)),(36,iv (↑(nn q2).length:Int)),(37,iv (IntKind.i64.wrap ((↑k:Int)+(1:Int))))]) (Hp.mk [(0,O.rows 2 false [[nilS,iv (0:Int)]]),(1,O.rows 2 false [[V.sl (Id.p 2) 0 n,iv v]]),(2,O.rows 1 true ((ul w).set (0+m) (V.raw (Value.int IntKind.u8 (2:Int))::(List.append []) (List.drop 1 row))))] 3 [])))))) (R (V.agg [V.lst 1 (sub (ul w) 0 n),iv v]))) (by kernel_rfl) ?_
  refine ifB_mk (fun d=>?_) (fun d=>?_)
  ·have hk:k<q2.length:=by have:=of_decide_eq_true d; rw [nn_length] at this; omega
   obtain ⟨m,hm⟩ : ∃ m,q2[k]? = some m:=⟨q2[k],by simp [hk]⟩
   have hmn:=hib m (List.mem_of_getElem? hm)
   refine need_mk ⟨hu2.resolve_right (by rintro rfl; simp at hk),nel hm (onNat_c (need_mk ⟨hmn,onSome_mk (x:=[sv (if m∈q2.take k then 2 else if m∈q then 1 else 0)]) ?_ (guardB_mk rfl ?_)⟩))⟩
   ·rw [hw,Nat.zero_add]; exact ul_get (wS_get _ _ hmn)
   ·rw [wr1i hk (by omega)]
    have e:=ul_setv w m 2 (row:=[sv (if m∈q2.take k then 2 else if m∈q then 1 else 0)]) rfl
    have:=hI (k+1) hk (by omega)
    rw [← wS_set2 (T:=q2.take k) (take_mem hm),← hw] at this
    refine hJ' ?_ this
    simp only [sh61b]
    rw [← e]
    rfl
  ·have hk:k=q2.length:=by have:=of_decide_eq_false d; rw [nn_length] at this; omega
   rw [hk,List.take_length] at hw
   rw [show sub (ul w) 0 n=ul w from by rw [← (show (ul w).length=n from by rw [ul_length,hw,wS_len])]; exact sub_all _,hw]
   exact h
end Go.Proofs.YtmddjopahcbefabGreat
