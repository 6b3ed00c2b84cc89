/- A part of the proof. -/
import Derived.Test.YtmddjopahcbefaaProg
import Derived.Test.YtmddjopahcbefaaXW6G9
import Derived.Test.YtmddjopahcbefaaXW6G10
namespace Go.Proofs.Ytmddjopahcbefaa
open Go Go.Proofs.Ytmddjopahcbefaa.Clean
set_option linter.unusedVariables false
set_option linter.unusedSimpArgs false
set_option maxRecDepth 10000
theorem stock39M {l:List It} {R:V→Prop} (h:R (bv (dcM (StkM l)))):K0G Try.prog glX 39 [.lst 3 (itl l)] R:=by
 refine K0_of_WY0 hmX hcDM 3000 Try.func39 (see (p:=ifB (decide ((↑(itl l).length:Int) > (30:Int))) (R (bv false)) (La 0 [(0:Tmp),(3:Tmp)] (WY Try.prog cfDM 2994 (Env.mk (Bs.mk 0 []) 0 none 54 39 0) (cdAt [1,1,0,1,0,0] (bodyOf Try.f39))) (Qblk 0 (Qthen (WY Try.prog cfDM 2997 (Env.mk (Bs.mk 0 []) 0 none 54 39 0) (cdAt [1,1,1] (bodyOf Try.f39)) (QendX Try.prog Try.f39 fun v h=>R (frzW h v))) (QendX Try.prog Try.f39 fun v h=>R (frzW h v)))) (St.mk (mkT [(0,V.lst 3 (itl l)),(3,iv (0:Int))]) (Hp.mk [] 0 [])))) (by kernel_rfl) ?_)
 rw [itl_lengthM]
 refine ifB_mk (fun hl=>rfM h (fun hs=>by have:=of_decide_eq_true hl; have:=hs.1; omega)) (fun hl=>?_)
 have hl:l.length≤30:=by have:=of_decide_eq_false hl; omega
 refine La.of (σ:=Nat) (fun k=>sh39M l k) (fun k=>k≤l.length∧(∀ (i:Nat) (x y:It),i+1<k→l[i]? = some x→l[i+1]? = some y→BefM x y) ∧ ∀ (i:Nat) (x:It),i<k→l[i]? = some x→OkpM x∧1≤x.2.2∧x.2.2≤1000) (fun k=>l.length - k) 0 (by kernel_rfl) ⟨by simp,by simp,by simp⟩ ?_
 rintro k ⟨g1,g2,g3⟩ J hJ
 refine see (p:=ifB (decide ((↑k:Int)<(↑(itl l).length:Int))) (onSome (itl l)[k]? fun row=>onCons (List.drop 0 row) fun u r=>onIntK IntKind.i64 u fun n=>onCons r fun u r=>onIntK IntKind.u8 u fun n_1=>onCons r fun u r=>onIntK IntKind.i64 u fun n_2=>ifB (decide (n ≥ (0:Int))) (ifB (decide (n≤(15:Int))) (ifB (!decide (n_1≤(15:Int))) (R (bv false)) (ifB (decide (n_2 ≥ (1:Int))) (ifB (!decide (n_2≤(1000:Int))) (R (bv false)) (ifB (decide ((↑k:Int) > (0:Int))) (onNat (IntKind.i64.wrap ((↑k:Int) - (1:Int))) fun m=>onSome (itl l)[m]? fun row=>onSome row[0]? fun v=>onIntK IntKind.i64 v fun n_3=>onNat (IntKind.i64.wrap ((↑k:Int) - (1:Int))) fun m=>onSome (itl l)[m]? fun row=>onSome row[1]? fun v=>onIntK IntKind.u8 v fun n_4=>ifB (decide (n_3<n)) (J (St.mk (mkT [(0,V.lst 3 (itl l)),(3,iv (IntKind.i64.wrap ((↑k:Int)+(1:Int))))]) (Hp.mk [] 0 []))) (ifB (n_3==n) (ifB (!decide (n_4<n_1)) (R (bv false)) (J (St.mk (mkT [(0,V.lst 3 (itl l)),(3,iv (IntKind.i64.wrap ((↑k:Int)+(1:Int))))]) (Hp.mk [] 0 [])))) (R (bv false)))) (J (St.mk (mkT [(0,V.lst 3 (itl l)),(3,iv (IntKind.i64.wrap ((↑k:Int)+(1:Int))))]) (Hp.mk [] 0 []))))) (R (bv false)))) (R (bv false))) (R (bv false))) (R (bv true))) (by kernel_rfl) ?_
 rw [itl_lengthM]
 refine ifB_mk (fun hb=>?_) (fun hb=>?_)
 ·have hlt:k<l.length:=by have:=of_decide_eq_true hb; omega
  obtain ⟨x,hx⟩:=getIM hlt
  have hm:=List.mem_of_getElem? hx
  have bad : ¬ (OkpM x∧1≤x.2.2∧x.2.2≤1000)→R (bv false):=fun hn=>rfM h (fun hs=>hn ⟨hs.2.2.1 x hm,hs.2.2.2 x hm⟩)
  refine onSome_mk (itl_getM hx) (onCons_cons (onIntK_iv (onCons_cons (onIntK_u8M (onCons_cons (onIntK_iv ?_))))))
  refine ifB_mk (fun a1=>ifB_mk (fun a2=>ifB_mk (fun a3=>bad (fun hp=>by have:=hp.1.2.2; simp at a3; omega)) (fun a3=>?_)) (fun a2=>bad (fun hp=>absurd hp.1.2.1 (of_decide_eq_false a2)))) (fun a1=>bad (fun hp=>absurd hp.1.1 (of_decide_eq_false a1)))
  refine ifB_mk (fun a4=>ifB_mk (fun a5=>bad (fun hp=>by have:=hp.2.2; simp at a5; omega)) (fun a5=>?_)) (fun a4=>bad (fun hp=>absurd hp.2.1 (of_decide_eq_false a4)))
  have hok:OkpM x∧1≤x.2.2∧x.2.2≤1000:=⟨⟨of_decide_eq_true a1,of_decide_eq_true a2,by simpa using a3⟩,of_decide_eq_true a4,by simpa using a5⟩
  rw [wr1iM hlt (by omega)]
  have go:(0<k → ∀ y,l[k - 1]? = some y→BefM y x)→J (sh39M l (k+1)):=fun hbef=>hJ (k+1) ⟨by omega,fun i y z hi hy hz=>by
   rcases Nat.lt_succ_iff_lt_or_eq.1 hi with q | q
   ·exact g2 i y z q hy hz
   ·rw [q] at hz
    rw [hx] at hz
    cases hz
    exact hbef (by omega) y (by rw [show k - 1=i from by omega]; exact hy),fun i y hi hy=>by
   rcases Nat.lt_succ_iff_lt_or_eq.1 hi with q | q
   ·exact g3 i y q hy
   ·rw [q,hx] at hy; cases hy; exact hok⟩ (by omega)
  refine ifB_mk (fun hk=>?_) (fun hk=>go (fun h0=>by have:=of_decide_eq_false hk; omega))
  have hk0:0<k:=by have:=of_decide_eq_true hk; omega
  obtain ⟨y,hy⟩:=getIM (l:=l) (k:=k - 1) (by omega)
  have hkw:IntKind.i64.wrap ((k:Int) - 1)=((k - 1:Nat):Int):=by rw [wr (by omega) (by omega)]; omega
  have badb : ¬ BefM y x→R (bv false):=fun hn=>rfM h (fun hs=>hn (hs.2.1 (k - 1) y x hy (by rw [show k - 1+1=k from by omega]; exact hx)))
  have gob:BefM y x→J (sh39M l (k+1)):=fun hb=>go (fun _ y' hy' => by rw [hy] at hy'; cases hy'; exact hb)
  refine onNat_mk hkw (onSome_mk (itl_getM hy) (onSome_mk (x:=iv y.1) rfl (onIntK_iv (onNat_mk hkw (onSome_mk (itl_getM hy) (onSome_mk (x:=u8v y.2.1) rfl (onIntK_u8M ?_)))))))
  refine ifB_mk (fun b1=>gob (.inl (of_decide_eq_true b1))) (fun b1=>ifB_mk (fun b2=>ifB_mk (fun b3=>badb ?_) (fun b3=>gob (.inr ⟨by simpa using b2,by simpa using b3⟩))) (fun b2=>badb ?_))
  ·rintro (q | q)
   ·exact absurd q (of_decide_eq_false b1)
   ·have:=q.2; simp at b3; omega
  ·rintro (q | q)
   ·exact absurd q (of_decide_eq_false b1)
   ·simp at b2; exact b2 q.1
 ·have hk:k=l.length:=by have:=of_decide_eq_false hb; omega
  refine rtM h ⟨hl,fun i x y hx hy=>g2 i x y ?_ hx hy,fun x hx=>?_,fun x hx=>?_⟩
  ·have:=(List.getElem?_eq_some_iff.1 hy).1; omega
  ·obtain ⟨i,hi⟩:=List.getElem?_of_mem hx
   exact (g3 i x (by have:=(List.getElem?_eq_some_iff.1 hi).1; omega) hi).1
  ·obtain ⟨i,hi⟩:=List.getElem?_of_mem hx
   exact (g3 i x (by have:=(List.getElem?_eq_some_iff.1 hi).1; omega) hi).2
def hasFM:List It→Int→Int→Int
 | [],_,_=>0
 | x::l,a,b=>if x.1=a∧x.2.1=b then x.2.2 else hasFM l a b
theorem has96M {l:List It} {a b:Int} {R:V→Prop} (hl:l.length≤1000) (h:R (iv (hasFM l a b))):K0G Try.prog glX 96 [.lst 3 (itl l),iv a,u8v b] R:=by
 refine K0_of_WY0 hmX hcDM 3000 Try.func96 (see (p:=La 0 [(0:Tmp),(1:Tmp),(2:Tmp),(7:Tmp)] (WY Try.prog cfDM 2995 (Env.mk (Bs.mk 0 []) 0 none 35 96 0) (cdAt [1,0,1,0,0] (bodyOf Try.f96))) (Qblk 0 (Qthen (WY Try.prog cfDM 2998 (Env.mk (Bs.mk 0 []) 0 none 35 96 0) (cdAt [1,1] (bodyOf Try.f96)) (QendX Try.prog Try.f96 fun v h=>R (frzW h v))) (QendX Try.prog Try.f96 fun v h=>R (frzW h v)))) (St.mk (mkT [(0,V.lst 3 (itl l)),(1,iv a),(2,V.raw (Value.int IntKind.u8 b)),(7,iv (0:Int))]) (Hp.mk [] 0 []))) (by kernel_rfl) ?_)
 refine La.of (σ:=Nat) (fun k=>sh96M l a b k) (fun k=>k≤l.length∧hasFM l a b=hasFM (l.drop k) a b) (fun k=>l.length - k) 0 (by kernel_rfl) ⟨by simp,by simp⟩ ?_
 rintro k ⟨g1,g2⟩ J hJ
 refine see (p:=ifB (decide ((↑k:Int)<(↑(itl l).length:Int))) (onSome (itl l)[k]? fun row=>onSome row[0]? fun v=>onIntK IntKind.i64 v fun n=>ifB (n==a) (onSome (itl l)[k]? fun row=>onSome row[1]? fun v=>onIntK IntKind.u8 v fun n=>ifB (n==b) (onSome (itl l)[k]? fun row=>onSome row[2]? fun v=>onIntK IntKind.i64 v fun n=>R (iv n)) (J (St.mk (mkT [(0,V.lst 3 (itl l)),(1,iv a),(2,V.raw (Value.int IntKind.u8 b)),(7,iv (IntKind.i64.wrap ((↑k:Int)+(1:Int))))]) (Hp.mk [] 0 [])))) (J (St.mk (mkT [(0,V.lst 3 (itl l)),(1,iv a),(2,V.raw (Value.int IntKind.u8 b)),(7,iv (IntKind.i64.wrap ((↑k:Int)+(1:Int))))]) (Hp.mk [] 0 [])))) (R (iv (0:Int)))) (by kernel_rfl) ?_
 rw [itl_lengthM]
 refine ifB_mk (fun hb=>?_) (fun hb=>?_)
 ·have hlt:k<l.length:=by have:=of_decide_eq_true hb; omega
  obtain ⟨x,hx⟩:=getIM hlt
  have hd:l.drop k=x::l.drop (k+1):=by rw [List.drop_eq_getElem_cons hlt]; congr 1; simpa [hlt] using hx
  rw [hd,hasFM] at g2
  rw [wr1iM hlt (by omega)]
  refine onSome_mk (itl_getM hx) (onSome_mk (x:=iv x.1) rfl (onIntK_iv (ifB_mk (fun e1=>?_) (fun e1=>?_))))
  ·refine onSome_mk (itl_getM hx) (onSome_mk (x:=u8v x.2.1) rfl (onIntK_u8M (ifB_mk (fun e2=>?_) (fun e2=>?_))))
   ·rw [if_pos ⟨by simpa using e1,by simpa using e2⟩] at g2
    rw [g2] at h
    exact onSome_mk (itl_getM hx) (onSome_mk (x:=iv x.2.2) rfl (onIntK_iv h))
   ·rw [if_neg (fun hq=>by simp at e2; exact e2 hq.2)] at g2
    exact hJ (k+1) ⟨hlt,g2⟩ (by omega)
  ·rw [if_neg (fun hq=>by simp at e1; exact e1 hq.1)] at g2
   exact hJ (k+1) ⟨hlt,g2⟩ (by omega)
 ·have hk:k=l.length:=by have:=of_decide_eq_false hb; omega
  rw [hk,List.drop_length,hasFM] at g2
  rw [g2] at h; exact h
theorem same15M {s s' : Nat} {l m:List It} {R:V→Prop} (hs:l=[]∨s=3) (hs' : m=[]∨s' = 3) (hl:l.length≤1000) (h:R (bv (dcM (l=m)))):K0G Try.prog glX 15 [.lst s (itl l),.lst s' (itl m)] R:=by
 refine K0_of_WY0 hmX hcDM 3000 Try.func15 (see (p:=ifB ((↑(itl l).length:Int) != (↑(itl m).length:Int)) (R (bv false)) (La 0 [(0:Tmp),(1:Tmp),(5:Tmp)] (WY Try.prog cfDM 2994 (Env.mk (Bs.mk 0 []) 0 none 26 15 0) (cdAt [1,1,0,1,0,0] (bodyOf Try.f15))) (Qblk 0 (Qthen (WY Try.prog cfDM 2997 (Env.mk (Bs.mk 0 []) 0 none 26 15 0) (cdAt [1,1,1] (bodyOf Try.f15)) (QendX Try.prog Try.f15 fun v h=>R (frzW h v))) (QendX Try.prog Try.f15 fun v h=>R (frzW h v)))) (St.mk (mkT [(0,V.lst s (itl l)),(1,V.lst s' (itl m)),(5,iv (0:Int))]) (Hp.mk [] 0 [])))) (by kernel_rfl) ?_)
 rw [itl_lengthM,itl_lengthM]
 refine ifB_mk (fun hn=>rfM h (fun he=>by rw [he] at hn; simp at hn)) (fun hn=>?_)
 have hlm:l.length=m.length:=by simp at hn; omega
 refine La.of (σ:=Nat) (fun k=>sh15M s s' l m k) (fun k=>k≤l.length ∧ ∀ i:Nat,i<k→l[i]? = m[i]?) (fun k=>l.length - k) 0 (by kernel_rfl) ⟨by simp,by simp⟩ ?_
 rintro k ⟨g1,g2⟩ J hJ
 refine see (p:=ifB (decide ((↑k:Int)<(↑(itl l).length:Int))) (need (s=3) (onSome (itl l)[k]? fun row=>onCons (List.drop 0 row) fun u r=>onIntK IntKind.i64 u fun n=>onCons r fun u r=>onIntK IntKind.u8 u fun n_1=>onCons r fun u r=>onIntK IntKind.i64 u fun n_2=>need (s' = 3) (onSome (itl m)[k]? fun row=>onCons (List.drop 0 row) fun u r=>onIntK IntKind.i64 u fun n_3=>onCons r fun u r=>onIntK IntKind.u8 u fun n_4=>onCons r fun u r=>onIntK IntKind.i64 u fun n_5=>ifB (!(fun b=>n==n_3&&b) ((fun b=>n_1==n_4&&b) ((fun b=>n_2==n_5&&b) true))) (R (bv false)) (J (St.mk (mkT [(0,V.lst s (itl l)),(1,V.lst s' (itl m)),(5,iv (IntKind.i64.wrap ((↑k:Int)+(1:Int))))]) (Hp.mk [] 0 [])))))) (R (bv true))) (by kernel_rfl) ?_
 rw [itl_lengthM]
 refine ifB_mk (fun hb=>?_) (fun hb=>?_)
 ·have hlt:k<l.length:=by have:=of_decide_eq_true hb; omega
  obtain ⟨x,hx⟩:=getIM hlt
  obtain ⟨y,hy⟩:=getIM (l:=m) (k:=k) (by omega)
  rw [wr1iM hlt (by omega)]
  refine need_mk ⟨hs.resolve_left (fun e=>by rw [e] at hlt; simp at hlt),?_⟩
  refine onSome_mk (itl_getM hx) (onCons_cons (onIntK_iv (onCons_cons (onIntK_u8M (onCons_cons (onIntK_iv ?_))))))
  refine need_mk ⟨hs'.resolve_left (fun e=>by rw [e] at hy; simp at hy),?_⟩
  refine onSome_mk (itl_getM hy) (onCons_cons (onIntK_iv (onCons_cons (onIntK_u8M (onCons_cons (onIntK_iv ?_))))))
  refine ifB_mk (fun e=>?_) (fun e=>?_)
  ·refine rfM h (fun he=>?_)
   rw [he,hy] at hx
   cases hx
   simp at e
  ·refine hJ (k+1) ⟨hlt,fun i hi=>?_⟩ (by omega)
   rcases Nat.lt_succ_iff_lt_or_eq.1 hi with q | q
   ·exact g2 i q
   ·rw [q,hx,hy]
    have:x=y:=by
     simp at e
     exact Prod.ext e.1 (Prod.ext e.2.1 e.2.2)
    rw [this]
 ·have hk:k=l.length:=by have:=of_decide_eq_false hb; omega
  refine rtM h (List.ext_getElem? fun i=>?_)
  by_cases hi:i<l.length
  ·exact g2 i (by omega)
  ·rw [List.getElem?_eq_none (by omega),List.getElem?_eq_none (by omega)]
def LexL (a b:List Nat):Prop := ∃ (k x y:Nat),a.take k=b.take k∧a[k]? = some x∧b[k]? = some y∧x<y
theorem take_get {a b:List Nat} {k j:Nat} (h:a.take k=b.take k) (hj:j<k):a[j]? = b[j]? := by
 have:=congrArg (fun l=>l[j]?) h
 simpa [List.getElem?_take,hj] using this
theorem take_le {a b:List Nat} {k j:Nat} (h:a.take k=b.take k) (hj:j≤k):a.take j=b.take j:=by
 have:=congrArg (List.take j) h
 rwa [List.take_take,List.take_take,Nat.min_eq_left hj] at this
theorem LexL.irr {a:List Nat} (h:LexL a a):False:=by
 obtain ⟨k,x,y,_,h1,h2,h3⟩:=h
 rw [h1,Option.some.injEq] at h2
 omega
theorem LexL.trans {a b c:List Nat} (h:LexL a b) (g:LexL b c):LexL a c:=by
 obtain ⟨k,x,y,h0,h1,h2,h3⟩:=h
 obtain ⟨j,z,u,g0,g1,g2,g3⟩:=g
 rcases Nat.lt_trichotomy k j with q | q | q
 ·exact ⟨k,x,y,h0.trans (take_le g0 (by omega)),h1,(take_get g0 q).symm.trans h2,h3⟩
 ·subst q
  rw [h2,Option.some.injEq] at g1
  exact ⟨k,x,u,h0.trans g0,h1,g2,by omega⟩
 ·exact ⟨j,z,u,(take_le h0 (by omega)).trans g0,(take_get h0 q).trans g1,g2,g3⟩
theorem LexL.tot {a b:List Nat} (hl:a.length=b.length) (h:a≠b):LexL a b∨LexL b a:=by
 have key : ∀ n:Nat,(∀ k:Nat,k<n→a[k]? = b[k]?) ∨ ∃ k:Nat,k<n∧a[k]? ≠ b[k]? ∧ ∀ j:Nat,j<k→a[j]? = b[j]? := by
  intro n
  induction n with
  | zero=>exact .inl (fun k hk=>by omega)
  | succ n ih =>
   rcases ih with ih | ⟨k,h1,h2,h3⟩
   ·by_cases e:a[n]? = b[n]?
    ·exact .inl (fun k hk=>by
      rcases Nat.lt_succ_iff_lt_or_eq.1 hk with q | q
      ·exact ih k q
      ·rw [q]; exact e)
    ·exact .inr ⟨n,by omega,e,ih⟩
   ·exact .inr ⟨k,by omega,h2,h3⟩
 rcases key a.length with q | ⟨k,k1,k2,k3⟩
 ·refine (h (List.ext_getElem? fun i=>?_)).elim
  by_cases hi:i<a.length
  ·exact q i hi
  ·rw [List.getElem?_eq_none_iff.2 (by omega),List.getElem?_eq_none_iff.2 (by omega)]
 ·have e1:a[k]? = some a[k]:=List.getElem?_eq_getElem k1
  have e2:b[k]? = some (b[k]'(by omega)):=List.getElem?_eq_getElem (by omega)
  have ht:a.take k=b.take k:=by
   refine List.ext_getElem? fun i=>?_
   rw [List.getElem?_take,List.getElem?_take]
   split
   ·exact k3 i (by assumption)
   ·rfl
  rw [e1,e2] at k2
  have hne:a[k]≠b[k]'(by omega):=fun q=>k2 (by rw [q])
  rcases Nat.lt_or_gt_of_ne hne with q | q
  ·exact .inl ⟨k,_,_,ht,e1,e2,q⟩
  ·exact .inr ⟨k,_,_,ht.symm,e2,e1,q⟩
def CmpP (a b:List Nat) (n:Int):Prop:=a.length=b.length→(n<0→LexL a b)∧(n=0→a=b)∧(0<n→LexL b a)
theorem take_snoc {a b:List Nat} {k x:Nat} (h:a.take k=b.take k) (ha:a[k]? = some x) (hb:b[k]? = some x):a.take (k+1)=b.take (k+1):=by
 rw [List.take_add_one,List.take_add_one,h,ha,hb]
theorem cmp115x {a b:List Nat} {R:V→Prop} (ha:a.length≤1000) (h : ∀ n,CmpP a b n→R (iv n)):K0G Try.prog glX 115 [.lst 1 (nn a),.lst 1 (nn b)] R:=by
 refine K0_of_WY0 hmX hcM 3000 Try.func115 (see (p:=La 0 [(0:Tmp),(1:Tmp),(9:Tmp),(10:Tmp),(11:Tmp)] (WY Try.prog cfM 2995 (Env.mk (Bs.mk 0 []) 0 none 36 115 0) (cdAt [1,0,1,0,0] (bodyOf Try.f115))) (Qblk 0 (Qthen (WY Try.prog cfM 2998 (Env.mk (Bs.mk 0 []) 0 none 36 115 0) (cdAt [1,1] (bodyOf Try.f115)) (QendX Try.prog Try.f115 fun v h=>R (frzW h v))) (QendX Try.prog Try.f115 fun v h=>R (frzW h v)))) (St.mk (mkT [(0,V.lst 1 (nn a)),(1,V.lst 1 (nn b)),(9,V.lst 1 (nn a)),(10,iv (↑(nn a).length:Int)),(11,iv (0:Int))]) (Hp.mk [] 0 []))) (by kernel_rfl) ?_)
 refine La.of (σ:=Nat) (fun k=>sh115 a b k) (fun k=>k≤a.length∧a.take k=b.take k) (fun k=>a.length - k) 0 (by kernel_rfl) (by simp) ?_
 rintro k ⟨h1,h2⟩ J hJ
 refine see (p:=ifB (decide ((↑k:Int)<(↑(nn a).length:Int))) (onSome (nn a)[k]? fun row=>onSome row[0]? fun v=>onIntK IntKind.i64 v fun n=>ifB (decide ((↑k:Int) ≥ (↑(nn b).length:Int))) (R (iv (1:Int))) (onSome (nn b)[k]? fun row=>onSome row[0]? fun v=>onIntK IntKind.i64 v fun n_1=>ifB (n != n) (ifB (n_1 != n_1) (J (St.mk (mkT [(0,V.lst 1 (nn a)),(1,V.lst 1 (nn b)),(9,V.lst 1 (nn a)),(10,iv (↑(nn a).length:Int)),(11,iv (IntKind.i64.wrap ((↑k:Int)+(1:Int))))]) (Hp.mk [] 0 []))) (R (iv (-1:Int)))) (ifB (n_1 != n_1) (R (iv (1:Int))) (ifB (decide (n<n_1)) (R (iv (-1:Int))) (ifB (decide (n > n_1)) (R (iv (1:Int))) (J (St.mk (mkT [(0,V.lst 1 (nn a)),(1,V.lst 1 (nn b)),(9,V.lst 1 (nn a)),(10,iv (↑(nn a).length:Int)),(11,iv (IntKind.i64.wrap ((↑k:Int)+(1:Int))))]) (Hp.mk [] 0 [])))))))) (ifB (decide ((↑(nn a).length:Int)<(↑(nn b).length:Int))) (R (iv (-1:Int))) (R (iv (0:Int))))) (by kernel_rfl) ?_
 simp only [nn_length]
 refine ifB_mk (fun hb=>?_) (fun hb=>ifB_mk (fun hc=>h _ (fun hl=>?_)) (fun _=>h _ (fun hl=>?_)))
 ·have hlt:k<a.length:=by have:=of_decide_eq_true hb; omega
  rw [wr1i hlt (by omega)]
  have e1:a[k]? = some (a.getD k 0):=by simp [List.getD,hlt]
  refine nel e1 ?_
  refine ifB_mk (fun hc=>h _ (fun hl=>?_)) (fun hc=>?_)
  ·have:=of_decide_eq_true hc; omega
  have hkb:k<b.length:=by have:=of_decide_eq_false hc; omega
  have e2:b[k]? = some (b.getD k 0):=by simp [List.getD,hkb]
  refine nel e2 (ifB_f (by simp) (ifB_f (by simp) (ifB_mk (fun d=>h _ (fun hl=>?_)) (fun d=>ifB_mk (fun e=>h _ (fun hl=>?_)) (fun e=>?_)))))
  ·exact ⟨fun _=>⟨k,_,_,h2,e1,e2,by have:=of_decide_eq_true d; omega⟩,fun q=>by omega,fun q=>by omega⟩
  ·exact ⟨fun q=>by omega,fun q=>by omega,fun _=>⟨k,_,_,h2.symm,e2,e1,by have:=of_decide_eq_true e; omega⟩⟩
  ·have d:=of_decide_eq_false d
   have e:=of_decide_eq_false e
   have ee:a.getD k 0=b.getD k 0:=by omega
   refine hJ' (s' := sh115 a b (k+1)) (by simp [sh115,nn_length]) (hJ (k+1) ⟨hlt,take_snoc h2 e1 (ee ▸ e2)⟩ (by omega))
 ·have:=of_decide_eq_true hc; omega
 ·have hk:k=a.length:=by have:=of_decide_eq_false hb; omega
  rw [hk,List.take_length,hl,List.take_length] at h2
  exact ⟨fun q=>by omega,fun _=>h2,fun q=>by omega⟩
theorem cmp119x {a b:List Nat} {R:V→Prop} (ha:a.length≤1000) (h : ∀ n,CmpP a b n→R (iv n)):K0G Try.prog glX 119 [.lst 1 (ul a),.lst 1 (ul b)] R:=by
 refine K0_of_WY0 hmX hcSh 3000 Try.func119 (see (p:=La 0 [(0:Tmp),(1:Tmp),(9:Tmp),(10:Tmp),(11:Tmp)] (WY Try.prog cfS 2995 (Env.mk (Bs.mk 0 []) 0 none 36 119 0) (cdAt [1,0,1,0,0] (bodyOf Try.f119))) (Qblk 0 (Qthen (WY Try.prog cfS 2998 (Env.mk (Bs.mk 0 []) 0 none 36 119 0) (cdAt [1,1] (bodyOf Try.f119)) (QendX Try.prog Try.f119 fun v h=>R (frzW h v))) (QendX Try.prog Try.f119 fun v h=>R (frzW h v)))) (St.mk (mkT [(0,V.lst 1 (ul a)),(1,V.lst 1 (ul b)),(9,V.lst 1 (ul a)),(10,iv (↑(ul a).length:Int)),(11,iv (0:Int))]) (Hp.mk [] 0 []))) (by kernel_rfl) ?_)
 refine La.of (σ:=Nat) (fun k=>sh66 a b k) (fun k=>k≤a.length∧a.take k=b.take k) (fun k=>a.length - k) 0 (by kernel_rfl) (by simp) ?_
 rintro k ⟨h1,h2⟩ J hJ
 refine see (p:=ifB (decide ((↑k:Int)<(↑(ul a).length:Int))) (onSome (ul a)[k]? fun row=>onSome row[0]? fun v=>onIntK IntKind.u8 v fun n=>ifB (decide ((↑k:Int) ≥ (↑(ul b).length:Int))) (R (iv (1:Int))) (onSome (ul b)[k]? fun row=>onSome row[0]? fun v=>onIntK IntKind.u8 v fun n_1=>ifB (n != n) (ifB (n_1 != n_1) (J (St.mk (mkT [(0,V.lst 1 (ul a)),(1,V.lst 1 (ul b)),(9,V.lst 1 (ul a)),(10,iv (↑(ul a).length:Int)),(11,iv (IntKind.i64.wrap ((↑k:Int)+(1:Int))))]) (Hp.mk [] 0 []))) (R (iv (-1:Int)))) (ifB (n_1 != n_1) (R (iv (1:Int))) (ifB (decide (n<n_1)) (R (iv (-1:Int))) (ifB (decide (n > n_1)) (R (iv (1:Int))) (J (St.mk (mkT [(0,V.lst 1 (ul a)),(1,V.lst 1 (ul b)),(9,V.lst 1 (ul a)),(10,iv (↑(ul a).length:Int)),(11,iv (IntKind.i64.wrap ((↑k:Int)+(1:Int))))]) (Hp.mk [] 0 [])))))))) (ifB (decide ((↑(ul a).length:Int)<(↑(ul b).length:Int))) (R (iv (-1:Int))) (R (iv (0:Int))))) (by kernel_rfl) ?_
 simp only [ul_length]
 refine ifB_mk (fun hb=>?_) (fun hb=>ifB_mk (fun hc=>h _ (fun hl=>?_)) (fun _=>h _ (fun hl=>?_)))
 ·have hlt:k<a.length:=by have:=of_decide_eq_true hb; omega
  rw [wr1i hlt (by omega)]
  have e1:a[k]? = some (a.getD k 0):=by simp [List.getD,hlt]
  refine ulel e1 ?_
  refine ifB_mk (fun hc=>h _ (fun hl=>?_)) (fun hc=>?_)
  ·have:=of_decide_eq_true hc; omega
  have hkb:k<b.length:=by have:=of_decide_eq_false hc; omega
  have e2:b[k]? = some (b.getD k 0):=by simp [List.getD,hkb]
  refine ulel e2 (ifB_f (by simp) (ifB_f (by simp) (ifB_mk (fun d=>h _ (fun hl=>?_)) (fun d=>ifB_mk (fun e=>h _ (fun hl=>?_)) (fun e=>?_)))))
  ·exact ⟨fun _=>⟨k,_,_,h2,e1,e2,by have:=of_decide_eq_true d; omega⟩,fun q=>by omega,fun q=>by omega⟩
  ·exact ⟨fun q=>by omega,fun q=>by omega,fun _=>⟨k,_,_,h2.symm,e2,e1,by have:=of_decide_eq_true e; omega⟩⟩
  ·have d:=of_decide_eq_false d
   have e:=of_decide_eq_false e
   have ee:a.getD k 0=b.getD k 0:=by omega
   refine hJ' (s' := sh66 a b (k+1)) (by simp [sh66,ul_length]) (hJ (k+1) ⟨hlt,take_snoc h2 e1 (ee ▸ e2)⟩ (by omega))
 ·have:=of_decide_eq_true hc; omega
 ·have hk:k=a.length:=by have:=of_decide_eq_false hb; omega
  rw [hk,List.take_length,hl,List.take_length] at h2
  exact ⟨fun q=>by omega,fun _=>h2,fun q=>by omega⟩
def Bet (x y:Int×List Nat):Prop:=y.1<x.1∨x.1=y.1∧(x.2.length<y.2.length∨x.2.length=y.2.length∧LexL x.2 y.2)
theorem Bet.irr {x:Int×List Nat} (h:Bet x x):False:=by
 rcases h with h | ⟨_,h | ⟨_,h⟩⟩
 ·omega
 ·omega
 ·exact h.irr
theorem Bet.trans {x y z:Int×List Nat} (h:Bet x y) (g:Bet y z):Bet x z:=by
 unfold Bet at *
 rcases h with h | ⟨h0,h | ⟨h1,h⟩⟩ <;> rcases g with g | ⟨g0,g | ⟨g1,g⟩⟩
 ·exact .inl (by omega)
 ·exact .inl (by omega)
 ·exact .inl (by omega)
 ·exact .inl (by omega)
 ·exact .inr ⟨by omega,.inl (by omega)⟩
 ·exact .inr ⟨by omega,.inl (by omega)⟩
 ·exact .inl (by omega)
 ·exact .inr ⟨by omega,.inl (by omega)⟩
 ·exact .inr ⟨by omega,.inr ⟨by omega,h.trans g⟩⟩
theorem Bet.tot {x y:Int×List Nat} (h:x.2≠y.2):Bet x y∨Bet y x:=by
 unfold Bet
 rcases Int.lt_trichotomy x.1 y.1 with q | q | q
 ·exact .inr (.inl q)
 ·rcases Nat.lt_trichotomy x.2.length y.2.length with r | r | r
  ·exact .inl (.inr ⟨q,.inl r⟩)
  ·rcases LexL.tot r h with t | t
   ·exact .inl (.inr ⟨q,.inr ⟨r,t⟩⟩)
   ·exact .inr (.inr ⟨q.symm,.inr ⟨r.symm,t⟩⟩)
  ·exact .inr (.inr ⟨q.symm,.inl r⟩)
 ·exact .inl (.inl q)
def SgnB (x y:Int×List Nat) (n:Int):Prop:=(n<0→Bet x y)∧(0≤n → ¬ Bet x y)
theorem sgn_lt {x y:Int×List Nat} {n:Int} (h:Bet x y) (hn:n<0):SgnB x y n:=⟨fun _=>h,fun q=>by omega⟩
theorem sgn_gt {x y:Int×List Nat} {n:Int} (h:Bet y x) (hn:0<n):SgnB x y n:=⟨fun q=>by omega,fun _ g=>(h.trans g).irr⟩
theorem better71x {s t:Nat} {v w:Int} {l m:List (List V)} {d e:Nat} {R:V→Prop} (hs:s<256) (ht:t<256) (h : ∀ n,SgnB (v,bl8 s) (w,bl8 t) n→R (iv n)):K0G Try.prog glX 71 [.agg [sv s,iv v,.lst d l],.agg [sv t,iv w,.lst e m]] R:=by
 refine K0_of_WY0 hmX hcM 3000 Try.func71 (see (p:=K0G Try.prog glX 72 [V.raw (Value.int IntKind.u8 (↑s:Int))] fun v_1=>onLst v_1 fun s es=>K0G Try.prog glX 72 [V.raw (Value.int IntKind.u8 (↑t:Int))] fun v_2=>onLst v_2 fun s_1 es_1=>ifB (w != w) (ifB (v != v) (ifB ((↑es.length:Int) != (↑es.length:Int)) (ifB ((↑es_1.length:Int) != (↑es_1.length:Int)) (K0G Try.prog glX 115 [V.lst s es,V.lst s_1 es_1] fun v=>onIntK IntKind.i64 v fun n=>ifB (n != (0:Int)) (R (iv n)) (R (iv (0:Int)))) (K0G Try.prog glX 115 [V.lst s es,V.lst s_1 es_1] fun v=>onIntK IntKind.i64 v fun n=>R (iv (-1:Int)))) (ifB ((↑es_1.length:Int) != (↑es_1.length:Int)) (K0G Try.prog glX 115 [V.lst s es,V.lst s_1 es_1] fun v=>onIntK IntKind.i64 v fun n=>R (iv (1:Int))) (ifB (decide ((↑es.length:Int)<(↑es_1.length:Int))) (K0G Try.prog glX 115 [V.lst s es,V.lst s_1 es_1] fun v=>onIntK IntKind.i64 v fun n=>R (iv (-1:Int))) (ifB (decide ((↑es.length:Int) > (↑es_1.length:Int))) (K0G Try.prog glX 115 [V.lst s es,V.lst s_1 es_1] fun v=>onIntK IntKind.i64 v fun n=>R (iv (1:Int))) (K0G Try.prog glX 115 [V.lst s es,V.lst s_1 es_1] fun v=>onIntK IntKind.i64 v fun n=>ifB (n != (0:Int)) (R (iv n)) (R (iv (0:Int)))))))) (ifB ((↑es.length:Int) != (↑es.length:Int)) (ifB ((↑es_1.length:Int) != (↑es_1.length:Int)) (K0G Try.prog glX 115 [V.lst s es,V.lst s_1 es_1] fun v=>onIntK IntKind.i64 v fun n=>R (iv (-1:Int))) (K0G Try.prog glX 115 [V.lst s es,V.lst s_1 es_1] fun v=>onIntK IntKind.i64 v fun n=>R (iv (-1:Int)))) (ifB ((↑es_1.length:Int) != (↑es_1.length:Int)) (K0G Try.prog glX 115 [V.lst s es,V.lst s_1 es_1] fun v=>onIntK IntKind.i64 v fun n=>R (iv (-1:Int))) (ifB (decide ((↑es.length:Int)<(↑es_1.length:Int))) (K0G Try.prog glX 115 [V.lst s es,V.lst s_1 es_1] fun v=>onIntK IntKind.i64 v fun n=>R (iv (-1:Int))) (ifB (decide ((↑es.length:Int) > (↑es_1.length:Int))) (K0G Try.prog glX 115 [V.lst s es,V.lst s_1 es_1] fun v=>onIntK IntKind.i64 v fun n=>R (iv (-1:Int))) (K0G Try.prog glX 115 [V.lst s es,V.lst s_1 es_1] fun v=>onIntK IntKind.i64 v fun n=>R (iv (-1:Int)))))))) (ifB (v != v) (ifB ((↑es.length:Int) != (↑es.length:Int)) (ifB ((↑es_1.length:Int) != (↑es_1.length:Int)) (K0G Try.prog glX 115 [V.lst s es,V.lst s_1 es_1] fun v=>onIntK IntKind.i64 v fun n=>R (iv (1:Int))) (K0G Try.prog glX 115 [V.lst s es,V.lst s_1 es_1] fun v=>onIntK IntKind.i64 v fun n=>R (iv (1:Int)))) (ifB ((↑es_1.length:Int) != (↑es_1.length:Int)) (K0G Try.prog glX 115 [V.lst s es,V.lst s_1 es_1] fun v=>onIntK IntKind.i64 v fun n=>R (iv (1:Int))) (ifB (decide ((↑es.length:Int)<(↑es_1.length:Int))) (K0G Try.prog glX 115 [V.lst s es,V.lst s_1 es_1] fun v=>onIntK IntKind.i64 v fun n=>R (iv (1:Int))) (ifB (decide ((↑es.length:Int) > (↑es_1.length:Int))) (K0G Try.prog glX 115 [V.lst s es,V.lst s_1 es_1] fun v=>onIntK IntKind.i64 v fun n=>R (iv (1:Int))) (K0G Try.prog glX 115 [V.lst s es,V.lst s_1 es_1] fun v=>onIntK IntKind.i64 v fun n=>R (iv (1:Int))))))) (ifB (decide (w<v)) (ifB ((↑es.length:Int) != (↑es.length:Int)) (ifB ((↑es_1.length:Int) != (↑es_1.length:Int)) (K0G Try.prog glX 115 [V.lst s es,V.lst s_1 es_1] fun v=>onIntK IntKind.i64 v fun n=>R (iv (-1:Int))) (K0G Try.prog glX 115 [V.lst s es,V.lst s_1 es_1] fun v=>onIntK IntKind.i64 v fun n=>R (iv (-1:Int)))) (ifB ((↑es_1.length:Int) != (↑es_1.length:Int)) (K0G Try.prog glX 115 [V.lst s es,V.lst s_1 es_1] fun v=>onIntK IntKind.i64 v fun n=>R (iv (-1:Int))) (ifB (decide ((↑es.length:Int)<(↑es_1.length:Int))) (K0G Try.prog glX 115 [V.lst s es,V.lst s_1 es_1] fun v=>onIntK IntKind.i64 v fun n=>R (iv (-1:Int))) (ifB (decide ((↑es.length:Int) > (↑es_1.length:Int))) (K0G Try.prog glX 115 [V.lst s es,V.lst s_1 es_1] fun v=>onIntK IntKind.i64 v fun n=>R (iv (-1:Int))) (K0G Try.prog glX 115 [V.lst s es,V.lst s_1 es_1] fun v=>onIntK IntKind.i64 v fun n=>R (iv (-1:Int))))))) (ifB (decide (w > v)) (ifB ((↑es.length:Int) != (↑es.length:Int)) (ifB ((↑es_1.length:Int) != (↑es_1.length:Int)) (K0G Try.prog glX 115 [V.lst s es,V.lst s_1 es_1] fun v=>onIntK IntKind.i64 v fun n=>R (iv (1:Int))) (K0G Try.prog glX 115 [V.lst s es,V.lst s_1 es_1] fun v=>onIntK IntKind.i64 v fun n=>R (iv (1:Int)))) (ifB ((↑es_1.length:Int) != (↑es_1.length:Int)) (K0G Try.prog glX 115 [V.lst s es,V.lst s_1 es_1] fun v=>onIntK IntKind.i64 v fun n=>R (iv (1:Int))) (ifB (decide ((↑es.length:Int)<(↑es_1.length:Int))) (K0G Try.prog glX 115 [V.lst s es,V.lst s_1 es_1] fun v=>onIntK IntKind.i64 v fun n=>R (iv (1:Int))) (ifB (decide ((↑es.length:Int) > (↑es_1.length:Int))) (K0G Try.prog glX 115 [V.lst s es,V.lst s_1 es_1] fun v=>onIntK IntKind.i64 v fun n=>R (iv (1:Int))) (K0G Try.prog glX 115 [V.lst s es,V.lst s_1 es_1] fun v=>onIntK IntKind.i64 v fun n=>R (iv (1:Int))))))) (ifB ((↑es.length:Int) != (↑es.length:Int)) (ifB ((↑es_1.length:Int) != (↑es_1.length:Int)) (K0G Try.prog glX 115 [V.lst s es,V.lst s_1 es_1] fun v=>onIntK IntKind.i64 v fun n=>ifB (n != (0:Int)) (R (iv n)) (R (iv (0:Int)))) (K0G Try.prog glX 115 [V.lst s es,V.lst s_1 es_1] fun v=>onIntK IntKind.i64 v fun n=>R (iv (-1:Int)))) (ifB ((↑es_1.length:Int) != (↑es_1.length:Int)) (K0G Try.prog glX 115 [V.lst s es,V.lst s_1 es_1] fun v=>onIntK IntKind.i64 v fun n=>R (iv (1:Int))) (ifB (decide ((↑es.length:Int)<(↑es_1.length:Int))) (K0G Try.prog glX 115 [V.lst s es,V.lst s_1 es_1] fun v=>onIntK IntKind.i64 v fun n=>R (iv (-1:Int))) (ifB (decide ((↑es.length:Int) > (↑es_1.length:Int))) (K0G Try.prog glX 115 [V.lst s es,V.lst s_1 es_1] fun v=>onIntK IntKind.i64 v fun n=>R (iv (1:Int))) (K0G Try.prog glX 115 [V.lst s es,V.lst s_1 es_1] fun v=>onIntK IntKind.i64 v fun n=>ifB (n != (0:Int)) (R (iv n)) (R (iv (0:Int)))))))))))) (by kernel_rfl) ?_)
 obtain ⟨d1,hd1,hN1⟩:=lsN_isL (bl8 s)
 obtain ⟨d2,hd2,hN2⟩:=lsN_isL (bl8 t)
 refine list90 hs (onLst_isL hN1 (list90 ht (onLst_isL hN2 ?_)))
 have call : ∀ (Q:V→Prop),(∀ n,CmpP (bl8 s) (bl8 t) n→Q (iv n))→K0G Try.prog glX 115 [V.lst d1 (nn (bl8 s)),V.lst d2 (nn (bl8 t))] Q:=fun Q hq=>K0_args (cmp115x (a:=bl8 s) (b:=bl8 t) (by have:=bl8_len s; omega) hq) (fun F w xs hx=>by
  have key : ∀ (d:Nat) (q:List Nat) (r:List V) (xs:List Value),(d=1∨q=[])→riL F w (.lst d (nn q)::r) xs→riL F w (.lst 1 (nn q)::r) xs:=by
   rintro d q r xs (rfl | rfl) hx
   ·exact hx
   ·simpa [riL,ri,nn,riRows] using hx
  have hx1:=key _ _ _ _ hd1 hx
  rw [riL] at hx1 ⊢
  obtain ⟨x,ys,g1,g2,g3⟩:=hx1
  exact ⟨x,ys,g1,g2,key _ _ _ _ hd2 g3⟩)
 have ea:(nn (bl8 s)).length=(bl8 s).length:=nn_length _
 have eb:(nn (bl8 t)).length=(bl8 t).length:=nn_length _
 generalize nn (bl8 s)=p at call ea
 generalize nn (bl8 t)=q at call eb
 generalize bl8 s=S at *
 generalize bl8 t=T at *
 have hw:(w != w)=false:=by simp
 have hv:(v != v)=false:=by simp
 have hp:((p.length:Int) != (p.length:Int))=false:=by simp
 have hq:((q.length:Int) != (q.length:Int))=false:=by simp
 rw [hw,hv,hp,hq]
 refine ifB_f rfl (ifB_f rfl (ifB_mk (fun h1=>?_) (fun h1=>ifB_mk (fun h2=>?_) (fun h2=>?_))))
 ·have h1:=of_decide_eq_true h1
  refine ifB_f rfl (ifB_f rfl (ifB_mk (fun _=>?_) (fun _=>ifB_mk (fun _=>?_) (fun _=>?_)))) <;> exact call _ (fun n _=>onIntK_iv (h _ (sgn_lt (.inl h1) (by omega))))
 ·have h2:=of_decide_eq_true h2
  refine ifB_f rfl (ifB_f rfl (ifB_mk (fun _=>?_) (fun _=>ifB_mk (fun _=>?_) (fun _=>?_)))) <;> exact call _ (fun n _=>onIntK_iv (h _ (sgn_gt (.inl h2) (by omega))))
 ·have h1:=of_decide_eq_false h1
  have h2:=of_decide_eq_false h2
  have hvw:v=w:=by omega
  refine ifB_f rfl (ifB_f rfl (ifB_mk (fun h3=>?_) (fun h3=>ifB_mk (fun h4=>?_) (fun h4=>?_))))
  ·have h3:=of_decide_eq_true h3
   exact call _ (fun n _=>onIntK_iv (h _ (sgn_lt (.inr ⟨hvw,.inl (by simp only; omega)⟩) (by omega))))
  ·have h4:=of_decide_eq_true h4
   exact call _ (fun n _=>onIntK_iv (h _ (sgn_gt (.inr ⟨hvw.symm,.inl (by simp only; omega)⟩) (by omega))))
  ·have h3:=of_decide_eq_false h3
   have h4:=of_decide_eq_false h4
   have hl:S.length=T.length:=by omega
   refine call _ (fun n hn=>onIntK_iv ?_)
   obtain ⟨c1,c2,c3⟩:=hn hl
   refine ifB_mk (fun hz=>h _ ?_) (fun hz=>h _ ?_)
   ·have hz:n≠0:=by simpa using hz
    rcases Int.lt_or_gt_of_ne hz with q | q
    ·exact sgn_lt (.inr ⟨hvw,.inr ⟨hl,c1 q⟩⟩) q
    ·exact sgn_gt (.inr ⟨hvw.symm,.inr ⟨hl.symm,c3 q⟩⟩) q
   ·have hz:n=0:=by simpa using hz
    have:=c2 hz
    subst this
    subst hvw
    exact ⟨fun q=>by omega,fun _ g=>g.irr⟩
def keyC (c:Ch):Int×List Nat:=(c.2.1,bl8 c.1)
theorem min69x {cs:List Ch} {R:V→Prop} (hne:cs≠[]) (hl:cs.length≤1000) (h256 : ∀ c∈cs,c.1<256) (h : ∀ c∈cs,(∀ c' ∈ cs, ¬ Bet (keyC c') (keyC c))→R (.agg (chr c))):K0G Try.prog glX 69 [.lst 3 (chl cs),.fn (.func 71) [] []] R:=by
 refine K0_of_WY0 hmX hcM 3000 Try.func69 (see (p:=ifB (decide ((↑(chl cs).length:Int)<(1:Int))) False (onSome (chl cs)[0]? fun row=>onCons (List.drop 0 row) fun u r=>onIntK IntKind.u8 u fun n=>onCons r fun u r=>onIntK IntKind.i64 u fun n_1=>onCons r fun u r=>onLst u fun s es=>La 0 [(0:Tmp),(1:Tmp),(4:Tmp),(5:Tmp),(6:Tmp)] (WY Try.prog cfM 2993 (Env.mk (Bs.mk 0 []) 0 none 33 69 0) (cdAt [1,1,1,0,1,0,0] (bodyOf Try.f69))) (Qblk 0 (Qthen (WY Try.prog cfM 2996 (Env.mk (Bs.mk 0 []) 0 none 33 69 0) (cdAt [1,1,1,1] (bodyOf Try.f69)) (QendX Try.prog Try.f69 fun v h=>R (frzW h v))) (QendX Try.prog Try.f69 fun v h=>R (frzW h v)))) (St.mk (mkT [(0,V.lst 3 (chl cs)),(1,V.fn (Fn.func (71:FuncId)) [] []),(4,V.ptr (Id.p 0) 0 0),(5,V.ptr (Id.p 1) 0 0),(6,iv (1:Int))]) (Hp.mk [(0,O.rows 3 false [[V.raw (Value.int IntKind.u8 (0:Int)),iv (0:Int),nilS]]),(1,O.rows 3 false [[V.raw (Value.int IntKind.u8 n),iv n_1,V.lst s es]])] 2 [])))) (by kernel_rfl) ?_)
 obtain ⟨c0,cr,rfl⟩ : ∃ c r,cs=c::r:=by cases cs with | nil=>exact (hne rfl).elim | cons c r=>exact ⟨c,r,rfl⟩
 generalize hcs:c0::cr=cs at *
 have hl1:1≤cs.length:=by rw [← hcs]; simp
 rw [chl_length]
 refine ifB_f (by simp; omega) ?_
 refine onSome_mk (x:=chr c0) (by rw [← hcs]; rfl) (onCons_cons (onIntK_u8 (onCons_cons (onIntK_iv (onCons_cons (onLst_lst ?_))))))
 refine La.of (σ:=Ch×Nat) (fun x=>sh88 cs x.1 x.2) (fun x=>x.1∈cs∧x.2≤cs.length ∧ ∀ i c', i<x.2→cs[i]? = some c' → ¬ Bet (keyC c') (keyC x.1)) (fun x=>cs.length - x.2) (c0,1) (by kernel_rfl) ⟨by rw [← hcs]; simp,hl1,fun i c' hi hc' => by
  have:i=0:=by simp only at hi; omega
  subst this
  rw [← hcs] at hc'
  simp only [List.getElem?_cons_zero,Option.some.injEq] at hc'
  subst hc'
  exact fun g=>g.irr⟩ ?_
 rintro ⟨c,k⟩ ⟨g1,g2,g3⟩ J hJ
 simp only at g1 g2 g3
 refine see (p:=ifB (decide ((↑k:Int)<(↑(chl cs).length:Int))) (onSome (chl cs)[k]? fun row=>onCons (List.drop 0 row) fun u r=>onIntK IntKind.u8 u fun n=>onCons r fun u r=>onIntK IntKind.i64 u fun n_1=>onCons r fun u r=>onLst u fun s es=>K0G Try.prog glX 71 [V.agg [V.raw (Value.int IntKind.u8 n),iv n_1,V.lst s es],V.agg [V.raw (Value.int IntKind.u8 (↑c.1:Int)),iv c.2.1,V.lst c.2.2.2 (itl c.2.2.1)]] fun v=>onIntK IntKind.i64 v fun n=>ifB (decide (n<(0:Int))) (onSome (chl cs)[k]? fun row=>onCons (List.drop 0 row) fun u r=>onIntK IntKind.u8 u fun n=>onCons r fun u r=>onIntK IntKind.i64 u fun n_2=>onCons r fun u r=>onLst u fun s es=>J (St.mk (mkT [(0,V.lst 3 (chl cs)),(1,V.fn (Fn.func (71:FuncId)) [] []),(4,V.ptr (Id.p 0) 0 0),(5,V.ptr (Id.p 1) 0 0),(6,iv (IntKind.i64.wrap ((↑k:Int)+(1:Int))))]) (Hp.mk [(0,O.rows 3 false [[V.raw (Value.int IntKind.u8 (0:Int)),iv (0:Int),nilS]]),(1,O.rows 3 false [[V.raw (Value.int IntKind.u8 n),iv n_2,V.lst s es]])] 2 []))) (J (St.mk (mkT [(0,V.lst 3 (chl cs)),(1,V.fn (Fn.func (71:FuncId)) [] []),(4,V.ptr (Id.p 0) 0 0),(5,V.ptr (Id.p 1) 0 0),(6,iv (IntKind.i64.wrap ((↑k:Int)+(1:Int))))]) (Hp.mk [(0,O.rows 3 false [[V.raw (Value.int IntKind.u8 (0:Int)),iv (0:Int),nilS]]),(1,O.rows 3 false [[V.raw (Value.int IntKind.u8 (↑c.1:Int)),iv c.2.1,V.lst c.2.2.2 (itl c.2.2.1)]])] 2 [])))) (R (V.agg [V.raw (Value.int IntKind.u8 (↑c.1:Int)),iv c.2.1,V.lst c.2.2.2 (itl c.2.2.1)]))) (by kernel_rfl) ?_
 rw [chl_length]
 refine ifB_mk (fun hb=>?_) (fun hb=>?_)
 ·have hlt:k<cs.length:=by have:=of_decide_eq_true hb; omega
  obtain ⟨x,hx⟩ : ∃ x,cs[k]? = some x:=⟨cs[k],by simp [hlt]⟩
  have hxm:=List.mem_of_getElem? hx
  have hrow:(chl cs)[k]? = some (chr x):=by simp [chl,hx]
  rw [wr1i hlt (by omega)]
  refine onSome_mk hrow (onCons_cons (onIntK_u8 (onCons_cons (onIntK_iv (onCons_cons (onLst_lst ?_))))))
  refine better71x (h256 x hxm) (h256 c g1) (fun n hn0=>onIntK_iv (ifB_mk (fun hn=>?_) (fun hn=>?_)))
  ·refine onSome_mk hrow (onCons_cons (onIntK_u8 (onCons_cons (onIntK_iv (onCons_cons (onLst_lst ?_))))))
   have hbt:Bet (keyC x) (keyC c):=hn0.1 (of_decide_eq_true hn)
   refine hJ (x,k+1) ⟨hxm,by simp only; omega,fun i c' hi hc' => ?_⟩ (by simp only; omega)
   simp only at hi ⊢
   rcases Nat.lt_succ_iff_lt_or_eq.1 hi with q | q
   ·exact fun g=>g3 i c' q hc' (g.trans hbt)
   ·subst q; rw [hx] at hc'; cases hc'; exact fun g=>g.irr
  ·have hbt : ¬ Bet (keyC x) (keyC c):=hn0.2 (by have:=of_decide_eq_false hn; omega)
   refine hJ (c,k+1) ⟨g1,by simp only; omega,fun i c' hi hc' => ?_⟩ (by simp only; omega)
   simp only at hi ⊢
   rcases Nat.lt_succ_iff_lt_or_eq.1 hi with q | q
   ·exact g3 i c' q hc'
   ·subst q; rw [hx] at hc'; cases hc'; exact hbt
 ·have hk:k=cs.length:=by have:=of_decide_eq_false hb; omega
  refine h c g1 (fun c' hc' => ?_)
  obtain ⟨i,hi⟩:=List.getElem?_of_mem hc'
  exact g3 i c' (by rw [hk]; exact (List.getElem?_eq_some_iff.1 hi).1) hi
def BetS (x y:List Nat×Int):Prop:=y.2<x.2∨x.2=y.2∧LexL x.1 y.1
theorem BetS.irr {x:List Nat×Int} (h:BetS x x):False:=by
 rcases h with h | ⟨_,h⟩
 ·omega
 ·exact h.irr
theorem BetS.trans {x y z:List Nat×Int} (h:BetS x y) (g:BetS y z):BetS x z:=by
 unfold BetS at *
 rcases h with h | ⟨h0,h⟩ <;> rcases g with g | ⟨g0,g⟩
 ·exact .inl (by omega)
 ·exact .inl (by omega)
 ·exact .inl (by omega)
 ·exact .inr ⟨by omega,h.trans g⟩
theorem better79x {a b:List Nat×Int} {R:V→Prop} (ha:a.1.length≤1000) (hl:a.1.length=b.1.length) (h : ∀ n,(n<0→BetS a b)∧(0≤n → ¬ BetS a b)→R (iv n)):K0G Try.prog glX 79 [.agg (shr a),.agg (shr b)] R:=by
 refine K0_of_WY0 hmX hcSh 3000 Try.func79 (see (p:=ifB (b.2 != b.2) (ifB (a.2 != a.2) (K0G Try.prog glX 119 [V.lst 1 (ul a.1),V.lst 1 (ul b.1)] fun v=>onIntK IntKind.i64 v fun n=>ifB (n != (0:Int)) (R (iv n)) (R (iv (0:Int)))) (K0G Try.prog glX 119 [V.lst 1 (ul a.1),V.lst 1 (ul b.1)] fun v=>onIntK IntKind.i64 v fun n=>R (iv (-1:Int)))) (ifB (a.2 != a.2) (K0G Try.prog glX 119 [V.lst 1 (ul a.1),V.lst 1 (ul b.1)] fun v=>onIntK IntKind.i64 v fun n=>R (iv (1:Int))) (ifB (decide (b.2<a.2)) (K0G Try.prog glX 119 [V.lst 1 (ul a.1),V.lst 1 (ul b.1)] fun v=>onIntK IntKind.i64 v fun n=>R (iv (-1:Int))) (ifB (decide (b.2 > a.2)) (K0G Try.prog glX 119 [V.lst 1 (ul a.1),V.lst 1 (ul b.1)] fun v=>onIntK IntKind.i64 v fun n=>R (iv (1:Int))) (K0G Try.prog glX 119 [V.lst 1 (ul a.1),V.lst 1 (ul b.1)] fun v=>onIntK IntKind.i64 v fun n=>ifB (n != (0:Int)) (R (iv n)) (R (iv (0:Int)))))))) (by kernel_rfl) ?_)
 refine ifB_f (by simp) (ifB_f (by simp) (ifB_mk (fun c=>?_) (fun c=>ifB_mk (fun d=>?_) (fun d=>?_))))
 ·have c:=of_decide_eq_true c
  exact cmp119x ha (fun n _=>onIntK_iv (h _ ⟨fun _ => .inl c,fun q=>by omega⟩))
 ·have d:=of_decide_eq_true d
  exact cmp119x ha (fun n _=>onIntK_iv (h _ ⟨fun q=>by omega,fun _ g=>(BetS.trans (.inl d:BetS b a) g).irr⟩))
 ·have c:=of_decide_eq_false c
  have d:=of_decide_eq_false d
  have hv:a.2=b.2:=by omega
  refine cmp119x ha (fun n hn=>onIntK_iv ?_)
  obtain ⟨c1,c2,c3⟩:=hn hl
  refine ifB_mk (fun hz=>h _ ?_) (fun hz=>h _ ?_)
  ·have hz:n≠0:=by simpa using hz
   rcases Int.lt_or_gt_of_ne hz with q | q
   ·exact ⟨fun _ => .inr ⟨hv,c1 q⟩,fun r=>by omega⟩
   ·exact ⟨fun r=>by omega,fun _ g=>(BetS.trans (.inr ⟨hv.symm,c3 q⟩:BetS b a) g).irr⟩
  ·have hz:n=0:=by simpa using hz
   have e:a=b:=Prod.ext (c2 hz) hv
   rw [e]
   exact ⟨fun q=>by omega,fun _ g=>g.irr⟩
theorem min78x {l:List (List Nat×Int)} {R:V→Prop} {N:Nat} (hne:l≠[]) (hl:l.length≤1000000) (hN:N≤1000) (h1000 : ∀ c∈l,c.1.length=N) (h : ∀ c∈l,(∀ c' ∈ l, ¬ BetS c' c)→R (.agg (shr c))):K0G Try.prog glX 78 [.lst 2 (shl l),.fn (.func 79) [] []] R:=by
 refine K0_of_WY0 hmX hcSh 3000 Try.func78 (see (p:=ifB (decide ((↑(shl l).length:Int)<(1:Int))) False (onSome (shl l)[0]? fun row=>onCons (List.drop 0 row) fun u r=>onLst u fun s es=>onCons r fun u r=>onIntK IntKind.i64 u fun n=>La 0 [(0:Tmp),(1:Tmp),(4:Tmp),(5:Tmp),(6:Tmp)] (WY Try.prog cfS 2993 (Env.mk (Bs.mk 0 []) 0 none 33 78 0) (cdAt [1,1,1,0,1,0,0] (bodyOf Try.f78))) (Qblk 0 (Qthen (WY Try.prog cfS 2996 (Env.mk (Bs.mk 0 []) 0 none 33 78 0) (cdAt [1,1,1,1] (bodyOf Try.f78)) (QendX Try.prog Try.f78 fun v h=>R (frzW h v))) (QendX Try.prog Try.f78 fun v h=>R (frzW h v)))) (St.mk (mkT [(0,V.lst 2 (shl l)),(1,V.fn (Fn.func (79:FuncId)) [] []),(4,V.ptr (Id.p 0) 0 0),(5,V.ptr (Id.p 1) 0 0),(6,iv (1:Int))]) (Hp.mk [(0,O.rows 2 false [[nilS,iv (0:Int)]]),(1,O.rows 2 false [[V.lst s es,iv n]])] 2 [])))) (by kernel_rfl) ?_)
 obtain ⟨c0,cr,rfl⟩ : ∃ c r,l=c::r:=by cases l with | nil=>exact (hne rfl).elim | cons c r=>exact ⟨c,r,rfl⟩
 generalize hcs:c0::cr=l at *
 have hl1:1≤l.length:=by rw [← hcs]; simp
 rw [shl_length]
 refine ifB_f (by simp; omega) ?_
 refine onSome_mk (x:=shr c0) (by rw [← hcs]; rfl) (onCons_cons (onLst_lst (onCons_cons (onIntK_iv ?_))))
 refine La.of (σ:=(List Nat×Int)×Nat) (fun x=>sh33 l x.1 x.2) (fun x=>x.1∈l∧x.2≤l.length ∧ ∀ i c', i<x.2→l[i]? = some c' → ¬ BetS c' x.1) (fun x=>l.length - x.2) (c0,1) (by kernel_rfl) ⟨by rw [← hcs]; simp,hl1,fun i c' hi hc' => by
  have:i=0:=by simp only at hi; omega
  subst this
  rw [← hcs] at hc'
  simp only [List.getElem?_cons_zero,Option.some.injEq] at hc'
  subst hc'
  exact fun g=>g.irr⟩ ?_
 rintro ⟨c,k⟩ ⟨g1,g2,g3⟩ J hJ
 simp only at g1 g2 g3
 refine see (p:=ifB (decide ((↑k:Int)<(↑(shl l).length:Int))) (onSome (shl l)[k]? fun row=>onCons (List.drop 0 row) fun u r=>onLst u fun s es=>onCons r fun u r=>onIntK IntKind.i64 u fun n=>K0G Try.prog glX 79 [V.agg [V.lst s es,iv n],V.agg [V.lst 1 (ul c.1),iv c.2]] fun v=>onIntK IntKind.i64 v fun n=>ifB (decide (n<(0:Int))) (onSome (shl l)[k]? fun row=>onCons (List.drop 0 row) fun u r=>onLst u fun s es=>onCons r fun u r=>onIntK IntKind.i64 u fun n=>J (St.mk (mkT [(0,V.lst 2 (shl l)),(1,V.fn (Fn.func (79:FuncId)) [] []),(4,V.ptr (Id.p 0) 0 0),(5,V.ptr (Id.p 1) 0 0),(6,iv (IntKind.i64.wrap ((↑k:Int)+(1:Int))))]) (Hp.mk [(0,O.rows 2 false [[nilS,iv (0:Int)]]),(1,O.rows 2 false [[V.lst s es,iv n]])] 2 []))) (J (St.mk (mkT [(0,V.lst 2 (shl l)),(1,V.fn (Fn.func (79:FuncId)) [] []),(4,V.ptr (Id.p 0) 0 0),(5,V.ptr (Id.p 1) 0 0),(6,iv (IntKind.i64.wrap ((↑k:Int)+(1:Int))))]) (Hp.mk [(0,O.rows 2 false [[nilS,iv (0:Int)]]),(1,O.rows 2 false [[V.lst 1 (ul c.1),iv c.2]])] 2 [])))) (R (V.agg [V.lst 1 (ul c.1),iv c.2]))) (by kernel_rfl) ?_
 rw [shl_length]
 refine ifB_mk (fun hb=>?_) (fun hb=>?_)
 ·have hlt:k<l.length:=by have:=of_decide_eq_true hb; omega
  obtain ⟨x,hx⟩ : ∃ x,l[k]? = some x:=⟨l[k],by simp [hlt]⟩
  have hxm:=List.mem_of_getElem? hx
  have hrow:(shl l)[k]? = some (shr x):=by simp [shl,hx]
  have hx1:=h1000 x hxm
  have hc1:=h1000 c g1
  rw [wr1i hlt (by omega)]
  refine onSome_mk hrow (onCons_cons (onLst_lst (onCons_cons (onIntK_iv ?_))))
  refine better79x (a:=x) (b:=c) (by omega) (by omega) (fun n hn0=>onIntK_iv (ifB_mk (fun hn=>?_) (fun hn=>?_)))
  ·refine onSome_mk hrow (onCons_cons (onLst_lst (onCons_cons (onIntK_iv ?_))))
   have hbt:BetS x c:=hn0.1 (of_decide_eq_true hn)
   refine hJ (x,k+1) ⟨hxm,by simp only; omega,fun i c' hi hc' => ?_⟩ (by simp only; omega)
   simp only at hi ⊢
   rcases Nat.lt_succ_iff_lt_or_eq.1 hi with q | q
   ·exact fun g=>g3 i c' q hc' (g.trans hbt)
   ·subst q; rw [hx] at hc'; cases hc'; exact fun g=>g.irr
  ·have hbt : ¬ BetS x c:=hn0.2 (by have:=of_decide_eq_false hn; omega)
   refine hJ (c,k+1) ⟨g1,by simp only; omega,fun i c' hi hc' => ?_⟩ (by simp only; omega)
   simp only at hi ⊢
   rcases Nat.lt_succ_iff_lt_or_eq.1 hi with q | q
   ·exact g3 i c' q hc'
   ·subst q; rw [hx] at hc'; cases hc'; exact hbt
 ·have hk:k=l.length:=by have:=of_decide_eq_false hb; omega
  refine h c g1 (fun c' hc' => ?_)
  obtain ⟨i,hi⟩:=List.getElem?_of_mem hc'
  exact g3 i c' (by rw [hk]; exact (List.getElem?_eq_some_iff.1 hi).1) hi
structure Gd (p:List (List It)) (v:List Int):Prop where
 st : ∀ l∈p,Stk l
 n8:p.length≤8
 vl:v.length=p.length
 vr : ∀ x∈v,0≤x∧x≤1000
noncomputable def allE (p:List (List It)):Int:=if dcM (∀ l∈p,Stk l)=true then 0 else 8
noncomputable def ePl (p:List (List It)) (v:List Int):Int:=if 8<p.length then 4 else if v.length≠p.length then 2 else if dcM (∀ x∈v,0≤x∧x≤1000)=true then 0 else 2
noncomputable def eAll (p:List (List It)) (v:List Int):Int:=if dcM (∀ l∈p,Stk l)=true then ePl p v else 8
theorem eAll_good {p:List (List It)} {v:List Int} (h:eAll p v=0):Gd p v:=by
 unfold eAll at h
 split at h
 ·rename_i h1
  unfold ePl at h
  split at h
  ·omega
  ·rename_i h2
   split at h
   ·omega
   ·rename_i h3
    split at h
    ·rename_i h4
     exact ⟨dc_trueM h1,by omega,by omega,dc_trueM h4⟩
    ·omega
 ·omega
theorem check13s {l:List It} {R:V→Prop} (h0:Stk l→R (iv 0)) (h8 : ¬ Stk l→R (iv 8)):K0G Try.prog glX 13 [.lst 3 (itl l)] R:=check13M (by
 unfold stkEM
 split
 ·rename_i h; exact h0 (dc_trueM h)
 ·rename_i h; exact h8 (fun q=>h (dc_tM (show StkM l from q))))
theorem checkAll36x {p:List (List It)} {R:V→Prop} (hp:p.length≤1000) (h:R (iv (allE p))):K0G Try.prog glX 36 [.lst 1 (pll p)] R:=by
 refine K0_of_WY0 hmX hcM 3000 Try.func36 (see (p:=La 0 [(6:Tmp),(7:Tmp),(8:Tmp)] (WY Try.prog cfM 2995 (Env.mk (Bs.mk 0 []) 0 none 18 36 0) (cdAt [1,0,1,0,0] (bodyOf Try.f36))) (Qblk 0 (Qthen (WY Try.prog cfM 2998 (Env.mk (Bs.mk 0 []) 0 none 18 36 0) (cdAt [1,1] (bodyOf Try.f36)) (QendX Try.prog Try.f36 fun v h=>R (frzW h v))) (QendX Try.prog Try.f36 fun v h=>R (frzW h v)))) (St.mk (mkT [(6,V.lst 1 (pll p)),(7,iv (↑(pll p).length:Int)),(8,iv (0:Int))]) (Hp.mk [] 0 []))) (by kernel_rfl) ?_)
 refine La.of (σ:=Nat) (fun k=>sh42 p k) (fun k=>k≤p.length ∧ ∀ (i:Nat) l,i<k→p[i]? = some l→Stk l) (fun k=>p.length - k) 0 (by kernel_rfl) ⟨by simp,by simp⟩ ?_
 rintro k ⟨g1,g3⟩ J hJ
 refine see (p:=ifB (decide ((↑k:Int)<(↑(pll p).length:Int))) (onSome (pll p)[k]? fun row=>onSome row[0]? fun v=>onLst v fun s es=>K0G Try.prog glX 13 [V.lst s es] fun v=>onIntK IntKind.i64 v fun n=>ifB (n != (0:Int)) (R (iv n)) (J (St.mk (mkT [(6,V.lst 1 (pll p)),(7,iv (↑(pll p).length:Int)),(8,iv (IntKind.i64.wrap ((↑k:Int)+(1:Int))))]) (Hp.mk [] 0 [])))) (R (iv (0:Int)))) (by kernel_rfl) ?_
 simp only [pll_length]
 refine ifB_mk (fun hb=>?_) (fun hb=>?_)
 ·have hlt:k<p.length:=by have:=of_decide_eq_true hb; omega
  obtain ⟨l,hl⟩ : ∃ x,p[k]? = some x:=⟨p[k],by simp [hlt]⟩
  refine pll_get hl (check13s (fun hs=>onIntK_iv (ifB_f rfl ?_)) (fun hs=>onIntK_iv (ifB_t rfl ?_)))
  ·rw [wr1i hlt (by omega)]
   refine hJ' ?_ (hJ (k+1) ⟨by omega,fun i y hi hy=>?_⟩ (by omega))
   ·simp [sh42,pll_length]
   ·rcases Nat.lt_succ_iff_lt_or_eq.1 hi with q | q
    ·exact g3 i y q hy
    ·rw [q,hl] at hy; cases hy; exact hs
  ·have e:allE p=8:=by unfold allE; rw [if_neg (by rw [dc_fM (fun q=>hs (q l (List.mem_of_getElem? hl)))]; simp)]
   rw [e] at h
   exact h
 ·have hk:k=p.length:=by have:=of_decide_eq_false hb; omega
  have e:allE p=0:=by
   unfold allE
   rw [if_pos (dc_tM (fun x hx=>?_))]
   obtain ⟨i,hi⟩:=List.getElem?_of_mem hx
   exact g3 i x (by have:=(List.getElem?_eq_some_iff.1 hi).1; omega) hi
  rw [e] at h
  exact h
theorem checkPlans68x {p:List (List It)} {v:List Int} {R:V→Prop} (hv:v.length≤1000) (h:R (iv (ePl p v))):K0G Try.prog glX 68 [.lst 1 (pll p),.lst 1 (nl v)] R:=by
  refine K0_of_WY0 hmX hcM 3000 Try.func68 (see (p:=ifB (decide ((↑(pll p).length:Int) > (8:Int))) (R (iv (4:Int))) (ifB ((↑(nl v).length:Int) != (↑(pll p).length:Int)) (R (iv (2:Int))) (La 0 [(15:Tmp),(16:Tmp),(17:Tmp)] (WY Try.prog cfM 2993 (Env.mk (Bs.mk 0 []) 0 none 25 68 0) (cdAt [1,1,1,0,1,0,0] (bodyOf Try.f68))) (Qblk 0 (Qthen (WY Try.prog cfM 2996 (Env.mk (Bs.mk 0 []) 0 none 25 68 0) (cdAt [1,1,1,1] (bodyOf Try.f68)) (QendX Try.prog Try.f68 fun v h=>R (frzW h v))) (QendX Try.prog Try.f68 fun v h=>R (frzW h v)))) (St.mk (mkT [(15,V.lst 1 (nl v)),(16,iv (↑(nl v).length:Int)),(17,iv (0:Int))]) (Hp.mk [] 0 []))))) (by kernel_rfl) ?_)
  have nll : ∀ l:List Int,(nl l).length=l.length:=fun l=>by simp [nl]
  rw [pll_length,nll]
  unfold ePl at h
  refine ifB_mk (fun c1=>?_) (fun c1=>?_)
  · rw [if_pos (by have:=of_decide_eq_true c1; omega)] at h
    exact h
  rw [if_neg (by have:=of_decide_eq_false c1; omega)] at h
  refine ifB_mk (fun c2=>?_) (fun c2=>?_)
  · rw [if_pos (by have : (v.length : Int) ≠ p.length := by simpa using c2
                   omega)] at h
    exact h
  have c2 : v.length = p.length := by have : (v.length : Int) = p.length := by simpa using c2
                                      omega
  rw [if_neg (by omega)] at h
  refine La.of (σ:=Nat) (fun k=>sh49 v k) (fun k=>k≤v.length ∧ ∀ (i:Nat) x,i<k→v[i]? = some x→0≤x∧x≤1000) (fun k=>v.length - k) 0 (by rw [← nll]; kernel_rfl) ⟨by simp,by simp⟩ ?_
  rintro k ⟨g1,g3⟩ J hJ
  refine see (p:=ifB (decide ((↑k:Int)<(↑(nl v).length:Int))) (onSome (nl v)[k]? fun row=>onSome row[0]? fun v_1=>onIntK IntKind.i64 v_1 fun n=>ifB (decide ((0:Int)≤n)) (ifB (!decide (n≤(1000:Int))) (R (iv (2:Int))) (J (St.mk (mkT [(15,V.lst 1 (nl v)),(16,iv (↑(nl v).length:Int)),(17,iv (IntKind.i64.wrap ((↑k:Int)+(1:Int))))]) (Hp.mk [] 0 [])))) (R (iv (2:Int)))) (R (iv (0:Int)))) (by kernel_rfl) ?_
  simp only [nll]
  refine ifB_mk (fun hb=>?_) (fun hb=>?_)
  · have hlt:k<v.length:=by have:=of_decide_eq_true hb; omega
    obtain ⟨x,hx⟩ : ∃ x,v[k]? = some x:=⟨v[k],by simp [hlt]⟩
    have bad : ¬ (0≤x∧x≤1000)→R (iv 2):=fun hn=>by
      rw [if_neg (by rw [dc_fM (fun q=>hn (q x (List.mem_of_getElem? hx)))]; simp)] at h
      exact h
    refine iel hx (ifB_mk (fun a1=>ifB_mk (fun a2=>bad (fun q=>?_)) (fun a2=>?_)) (fun a1=>bad (fun q=>?_)))
    · have : ¬ x≤1000:=by simpa using a2
      exact this q.2
    · rw [wr1i hlt (by omega)]
      refine hJ' ?_ (hJ (k+1) ⟨by omega,fun i y hi hy=>?_⟩ (by omega))
      · simp [sh49,nll]
      · rcases Nat.lt_succ_iff_lt_or_eq.1 hi with q | q
        · exact g3 i y q hy
        · rw [q,hx] at hy; cases hy; exact ⟨of_decide_eq_true a1,by simpa using a2⟩
    · exact (of_decide_eq_false a1) q.1
  · have hk:k=v.length:=by have:=of_decide_eq_false hb; omega
    rw [if_pos (dc_tM (fun x hx=>by
      obtain ⟨i,hi⟩:=List.getElem?_of_mem hx
      exact g3 i x (by have:=(List.getElem?_eq_some_iff.1 hi).1; omega) hi))] at h
    exact h
theorem cs_facts {bx:List It} {p:List (List It)} {v:List Int} (hb:Stk bx) (hG:Gd p v) {cs:List Ch} (hcs:cs.map erC=choS bx p v (2 ^ p.length)):cs.length≤1000∧(∀ c∈cs,c.1<2 ^ p.length∧choF p v (bl8 c.1) 0 bx=some (c.2.1,c.2.2.1))∧(∀ c∈cs,c.1<256∧(∀ i∈bl8 c.1,i<p.length)∧0≤c.2.1∧c.2.1≤1000000000) ∧ ∀ s x l,s<2 ^ p.length→choF p v (bl8 s) 0 bx=some (x,l) → ∃ c∈cs,erC c=(s,x,l):=by
 have h256:2 ^ p.length≤256:=Nat.pow_le_pow_right (n:=2) (by omega) hG.n8
 have hmem : ∀ c∈cs,c.1<2 ^ p.length∧choF p v (bl8 c.1) 0 bx=some (c.2.1,c.2.2.1):=fun c hc=>(choS_mem (x:=erC c)).1 (by rw [← hcs]; exact List.mem_map_of_mem hc)
 refine ⟨?_,hmem,fun c hc=>?_,fun s x l hs hx=>?_⟩
 ·have e:cs.length=(choS bx p v (2 ^ p.length)).length:=by rw [← hcs,List.length_map]
  have:=List.length_filterMap_le (fun s=>(choF p v (bl8 s) 0 bx).map fun q=>(s,q.1,q.2)) (List.range (2 ^ p.length))
  simp only [List.length_range] at this
  rw [e]
  unfold choS
  omega
 ·obtain ⟨m1,m2⟩:=hmem c hc
  have gp : ∀ l∈p,G l:=fun l hl=>(hG.st l hl).g
  obtain ⟨c1,_⟩:=cho_some gp hb.g m2
  have h8:=bl8_len c.1
  have hs:=sumV_ok hG.vr (bl8 c.1)
  unfold sumV at hs
  exact ⟨by omega,fun i hi=>bl8_lt m1 hi,by omega,by omega⟩
 ·have:(s,x,l)∈cs.map erC:=by rw [hcs]; exact choS_mem.2 ⟨hs,hx⟩
  obtain ⟨c,hc,e⟩:=List.mem_map.1 this
  exact ⟨c,hc,e⟩
theorem choose26x {bx:List It} {p:List (List It)} {v:List Int} {R:V→Prop} (hp:p.length≤1000) (hv:v.length≤1000) (bad8 : ¬ Stk bx→R (.tup [.agg [nilS,iv 0,nilS],iv 8])) (bad:Stk bx→eAll p v≠0→R (.tup [.agg [nilS,iv 0,nilS],iv (eAll p v)]))
  (h:Stk bx→Gd p v → ∀ s val l d d1,s<2 ^ p.length→choF p v (bl8 s) 0 bx=some (val,l)→(∀ s' val' l', s' < 2 ^ p.length→choF p v (bl8 s') 0 bx=some (val', l') → ¬ Bet (val', bl8 s') (val,bl8 s))→(d1=1∨bl8 s=[])→(d=3∨l=[])→R (.tup [.agg [.lst d1 (nn (bl8 s)),iv val,.lst d (itl l)],iv 0])):K0G Try.prog glX 26 [.lst 3 (itl bx),.lst 1 (pll p),.lst 1 (nl v)] R:=by
 refine K0_of_WY0 hmX hcM 3000 Try.func26 (see (p:=K0G Try.prog glX 13 [V.lst 3 (itl bx)] fun v_1=>onIntK IntKind.i64 v_1 fun n=>K0G Try.prog glX 36 [V.lst 1 (pll p)] fun v_2=>onIntK IntKind.i64 v_2 fun n_1=>K0G Try.prog glX 68 [V.lst 1 (pll p),V.lst 1 (nl v)] fun v_3=>onIntK IntKind.i64 v_3 fun n_2=>ifB (n != (0:Int)) (ifB (n != (0:Int)) (R (V.tup [V.agg [nilS,iv (0:Int),nilS],iv n])) (K0G Try.prog glX 70 [V.lst 3 (itl bx),V.lst 1 (pll p),V.lst 1 (nl v)] fun v=>onLst v fun s es=>K0G Try.prog glX 69 [V.lst s es,V.fn (Fn.func 71) [] []] fun v=>onAgg v fun cs=>onCons cs fun u r=>onIntK IntKind.u8 u fun n=>onCons r fun u r=>onIntK IntKind.i64 u fun n_3=>onCons r fun u r=>onLst u fun s es=>onNil r (K0G Try.prog glX 72 [V.raw (Value.int IntKind.u8 n)] fun v=>onLst v fun s_1 es_1=>R (V.tup [V.agg [V.lst s_1 es_1,iv n_3,V.lst s es],iv (0:Int)])))) (ifB (n_1 != (0:Int)) (ifB (n_1 != (0:Int)) (R (V.tup [V.agg [nilS,iv (0:Int),nilS],iv n_1])) (K0G Try.prog glX 70 [V.lst 3 (itl bx),V.lst 1 (pll p),V.lst 1 (nl v)] fun v=>onLst v fun s es=>K0G Try.prog glX 69 [V.lst s es,V.fn (Fn.func 71) [] []] fun v=>onAgg v fun cs=>onCons cs fun u r=>onIntK IntKind.u8 u fun n=>onCons r fun u r=>onIntK IntKind.i64 u fun n_3=>onCons r fun u r=>onLst u fun s es=>onNil r (K0G Try.prog glX 72 [V.raw (Value.int IntKind.u8 n)] fun v=>onLst v fun s_1 es_1=>R (V.tup [V.agg [V.lst s_1 es_1,iv n_3,V.lst s es],iv (0:Int)])))) (ifB (n_2 != (0:Int)) (ifB (n_2 != (0:Int)) (R (V.tup [V.agg [nilS,iv (0:Int),nilS],iv n_2])) (K0G Try.prog glX 70 [V.lst 3 (itl bx),V.lst 1 (pll p),V.lst 1 (nl v)] fun v=>onLst v fun s es=>K0G Try.prog glX 69 [V.lst s es,V.fn (Fn.func 71) [] []] fun v=>onAgg v fun cs=>onCons cs fun u r=>onIntK IntKind.u8 u fun n=>onCons r fun u r=>onIntK IntKind.i64 u fun n_3=>onCons r fun u r=>onLst u fun s es=>onNil r (K0G Try.prog glX 72 [V.raw (Value.int IntKind.u8 n)] fun v=>onLst v fun s_1 es_1=>R (V.tup [V.agg [V.lst s_1 es_1,iv n_3,V.lst s es],iv (0:Int)])))) (K0G Try.prog glX 70 [V.lst 3 (itl bx),V.lst 1 (pll p),V.lst 1 (nl v)] fun v=>onLst v fun s es=>K0G Try.prog glX 69 [V.lst s es,V.fn (Fn.func 71) [] []] fun v=>onAgg v fun cs=>onCons cs fun u r=>onIntK IntKind.u8 u fun n=>onCons r fun u r=>onIntK IntKind.i64 u fun n_3=>onCons r fun u r=>onLst u fun s es=>onNil r (K0G Try.prog glX 72 [V.raw (Value.int IntKind.u8 n)] fun v=>onLst v fun s_1 es_1=>R (V.tup [V.agg [V.lst s_1 es_1,iv n_3,V.lst s es],iv (0:Int)])))))) (by kernel_rfl) ?_)
 refine check13s (fun k1=>onIntK_iv (checkAll36x hp (onIntK_iv (checkPlans68x hv (onIntK_iv ?_))))) (fun k1=>onIntK_iv (checkAll36x hp (onIntK_iv (checkPlans68x hv (onIntK_iv (ifB_t rfl (ifB_t rfl (bad8 k1))))))))
 refine ifB_f rfl ?_
 unfold allE
 by_cases hall : ∀ l∈p,Stk l
 ·have ea:eAll p v=ePl p v:=by unfold eAll; rw [if_pos (dc_tM hall)]
  rw [ea] at bad
  rw [if_pos (dc_tM hall)]
  refine ifB_f rfl (ifB_mk (fun c=>ifB_t c (bad k1 (by simpa using c))) (fun c=>?_))
  have hG:Gd p v:=eAll_good (by rw [ea]; simpa using c)
  have h256:2 ^ p.length≤256:=Nat.pow_le_pow_right (n:=2) (by omega) hG.n8
  refine choices51 k1.nok (by have:=k1.1; omega) (fun l hl=>(hG.st l hl).nok) (fun x hx=>⟨(hG.vr x hx).1,by have:=(hG.vr x hx).2; omega⟩) hG.vl hG.n8 (fun cs hcs hcd hne=>onLst_lst ?_)
  obtain ⟨c1,c2,c3,c4⟩:=cs_facts k1 hG hcs
  refine min69x hne c1 (fun c hc=>(c3 c hc).1) (fun c hc hbest=>?_)
  obtain ⟨m1,m2⟩:=c2 c hc
  refine onAgg_agg (onCons_cons (onIntK_u8 (onCons_cons (onIntK_iv (onCons_cons (onLst_lst (onNil_nil ?_)))))))
  obtain ⟨d1,hd1,hN1⟩:=lsN_isL (bl8 c.1)
  refine list90 (by omega) (onLst_isL hN1 ?_)
  refine h k1 hG c.1 c.2.1 c.2.2.1 c.2.2.2 d1 m1 m2 (fun s' val' l' hs' hc' => ?_) hd1 (hcd c hc)
  obtain ⟨c', h1,h2⟩:=c4 s' val' l' hs' hc'
  have:=hbest c' h1
  simp only [erC,Prod.mk.injEq] at h2
  unfold keyC at this
  rw [h2.1,h2.2.1] at this
  exact this
 ·have ea:eAll p v=8:=by unfold eAll; rw [if_neg (by rw [dc_fM hall]; simp)]
  rw [ea] at bad
  rw [if_neg (by rw [dc_fM hall]; simp)]
  exact ifB_t rfl (ifB_t rfl (bad k1 (by omega)))
set_option maxHeartbeats 1000000 in
theorem share28x {a b:List It} {p:List (List It)} {v:List Int} {R:V→Prop} (hp:p.length≤1000) (hv:v.length≤1000) (bad8 : ¬ (Stk a∧Stk b)→R (.tup [nilS,iv 0,iv 8])) (bad:Stk a→Stk b→eAll p v≠0→R (.tup [nilS,iv 0,iv (eAll p v)]))
  (h:Stk a→Stk b→Gd p v → ∀ s t x y l m,s<2 ^ p.length→t<2 ^ p.length→s &&& t=0→choF p v (bl8 s) 0 a=some (x,l)→choF p v (bl8 t) 0 b=some (y,m) →
   (∀ s' t' x' y' l' m', s' < 2 ^ p.length→t' < 2 ^ p.length→s' &&& t' = 0→choF p v (bl8 s') 0 a=some (x', l')→choF p v (bl8 t') 0 b=some (y', m') → ¬ BetS (wS p.length (bl8 s') (bl8 t'),x' + y') (wS p.length (bl8 s) (bl8 t),x+y))→R (.tup [.lst 1 (ul (wS p.length (bl8 s) (bl8 t))),iv (x+y),iv 0])):K0G Try.prog glX 28 [.lst 3 (itl a),.lst 3 (itl b),.lst 1 (pll p),.lst 1 (nl v)] R:=by
 refine K0_of_WY0 hmX hcSh 3000 Try.func28 (see (p:=K0G Try.prog glX 36 [V.lst 1 [[V.lst 3 (itl a)],[V.lst 3 (itl b)]]] fun v_1=>onIntK IntKind.i64 v_1 fun n=>K0G Try.prog glX 36 [V.lst 1 (pll p)] fun v_2=>onIntK IntKind.i64 v_2 fun n_1=>K0G Try.prog glX 68 [V.lst 1 (pll p),V.lst 1 (nl v)] fun v_3=>onIntK IntKind.i64 v_3 fun n_2=>ifB (n != (0:Int)) (ifB (n != (0:Int)) (R (V.tup [nilS,iv (0:Int),iv n])) (K0G Try.prog glX 70 [V.lst 3 (itl a),V.lst 1 (pll p),V.lst 1 (nl v)] fun v_4=>onLst v_4 fun s es=>K0G Try.prog glX 70 [V.lst 3 (itl b),V.lst 1 (pll p),V.lst 1 (nl v)] fun v=>onLst v fun s_1 es_1=>K0G Try.prog glX 77 [V.lst s es,V.lst s_1 es_1,iv (↑(pll p).length:Int)] fun v=>onLst v fun s es=>K0G Try.prog glX 78 [V.lst s es,V.fn (Fn.func 79) [] []] fun v=>onAgg v fun cs=>onCons cs fun u r=>onLst u fun s es=>onCons r fun u r=>onIntK IntKind.i64 u fun n=>onNil r (R (V.tup [V.lst s es,iv n,iv (0:Int)])))) (ifB (n_1 != (0:Int)) (ifB (n_1 != (0:Int)) (R (V.tup [nilS,iv (0:Int),iv n_1])) (K0G Try.prog glX 70 [V.lst 3 (itl a),V.lst 1 (pll p),V.lst 1 (nl v)] fun v_4=>onLst v_4 fun s es=>K0G Try.prog glX 70 [V.lst 3 (itl b),V.lst 1 (pll p),V.lst 1 (nl v)] fun v=>onLst v fun s_1 es_1=>K0G Try.prog glX 77 [V.lst s es,V.lst s_1 es_1,iv (↑(pll p).length:Int)] fun v=>onLst v fun s es=>K0G Try.prog glX 78 [V.lst s es,V.fn (Fn.func 79) [] []] fun v=>onAgg v fun cs=>onCons cs fun u r=>onLst u fun s es=>onCons r fun u r=>onIntK IntKind.i64 u fun n=>onNil r (R (V.tup [V.lst s es,iv n,iv (0:Int)])))) (ifB (n_2 != (0:Int)) (ifB (n_2 != (0:Int)) (R (V.tup [nilS,iv (0:Int),iv n_2])) (K0G Try.prog glX 70 [V.lst 3 (itl a),V.lst 1 (pll p),V.lst 1 (nl v)] fun v_4=>onLst v_4 fun s es=>K0G Try.prog glX 70 [V.lst 3 (itl b),V.lst 1 (pll p),V.lst 1 (nl v)] fun v=>onLst v fun s_1 es_1=>K0G Try.prog glX 77 [V.lst s es,V.lst s_1 es_1,iv (↑(pll p).length:Int)] fun v=>onLst v fun s es=>K0G Try.prog glX 78 [V.lst s es,V.fn (Fn.func 79) [] []] fun v=>onAgg v fun cs=>onCons cs fun u r=>onLst u fun s es=>onCons r fun u r=>onIntK IntKind.i64 u fun n=>onNil r (R (V.tup [V.lst s es,iv n,iv (0:Int)])))) (K0G Try.prog glX 70 [V.lst 3 (itl a),V.lst 1 (pll p),V.lst 1 (nl v)] fun v_4=>onLst v_4 fun s es=>K0G Try.prog glX 70 [V.lst 3 (itl b),V.lst 1 (pll p),V.lst 1 (nl v)] fun v=>onLst v fun s_1 es_1=>K0G Try.prog glX 77 [V.lst s es,V.lst s_1 es_1,iv (↑(pll p).length:Int)] fun v=>onLst v fun s es=>K0G Try.prog glX 78 [V.lst s es,V.fn (Fn.func 79) [] []] fun v=>onAgg v fun cs=>onCons cs fun u r=>onLst u fun s es=>onCons r fun u r=>onIntK IntKind.i64 u fun n=>onNil r (R (V.tup [V.lst s es,iv n,iv (0:Int)])))))) (by kernel_rfl) ?_)
 refine checkAll36x (p:=[a,b]) (by simp) (onIntK_iv (checkAll36x hp (onIntK_iv (checkPlans68x hv (onIntK_iv ?_)))))
 have eab:allE [a,b]=if dcM (Stk a∧Stk b)=true then 0 else 8:=by
  unfold allE
  have:(∀ l∈[a,b],Stk l)↔(Stk a∧Stk b):=by simp
  rw [propext this]
 rw [eab]
 rcases Classical.em (¬ (Stk a∧Stk b)) with hab | hab
 ·rw [if_neg (by rw [dc_fM hab]; simp)]
  exact ifB_t rfl (ifB_t rfl (bad8 hab))
 have hab:=Classical.not_not.1 hab
 rw [if_pos (dc_tM hab)]
 obtain ⟨ka,kb⟩:=hab
 refine ifB_f rfl ?_
 unfold allE
 rcases Classical.em (¬ ∀ l∈p,Stk l) with hall | hall
 ·have ea:eAll p v=8:=by unfold eAll; rw [if_neg (by rw [dc_fM hall]; simp)]
  rw [ea] at bad
  rw [if_neg (by rw [dc_fM hall]; simp)]
  exact ifB_t rfl (ifB_t rfl (bad ka kb (by omega)))
 have hall:=Classical.not_not.1 hall
 have ea:eAll p v=ePl p v:=by unfold eAll; rw [if_pos (dc_tM hall)]
 rw [ea] at bad
 rw [if_pos (dc_tM hall)]
 refine ifB_f rfl (ifB_mk (fun c=>ifB_t c (bad ka kb (by simpa using c))) (fun c=>?_))
 have hG:Gd p v:=eAll_good (by rw [ea]; simpa using c)
 have kv:Vaok v:=fun x hx=>⟨(hG.vr x hx).1,by have:=(hG.vr x hx).2; omega⟩
 have kp:Plok p:=fun l hl=>(hG.st l hl).nok
 have n8:=hG.n8
 refine choices51 ka.nok (by have:=ka.1; omega) kp kv hG.vl hG.n8 (fun cs hcs hcd hne=>onLst_lst ?_)
 refine choices51 kb.nok (by have:=kb.1; omega) kp kv hG.vl hG.n8 (fun ds hds hdd hne2=>onLst_lst ?_)
 obtain ⟨c1,c2,c3,c4⟩:=cs_facts ka hG hcs
 obtain ⟨d1,d2,d3,d4⟩:=cs_facts kb hG hds
 have mem : ∀ z,z∈shA p.length cs ds ↔ ∃ c∈cs, ∃ d∈ds,c.1 &&& d.1=0∧z=shOf p.length c d:=by
  intro z
  unfold shA shR
  simp only [List.mem_flatMap]
  constructor
  ·rintro ⟨c,hc,d,hd,hz⟩
   split at hz
   ·rename_i e
    exact ⟨c,hc,d,hd,e,List.mem_singleton.1 hz⟩
   ·cases hz
  ·rintro ⟨c,hc,d,hd,e,hz⟩
   exact ⟨c,hc,d,hd,by rw [if_pos e,hz]; simp⟩
 have p0:0<2 ^ p.length:=Nat.two_pow_pos _
 have hne3:shA p.length cs ds≠[]:=by
  obtain ⟨c,hc,ec⟩:=c4 0 0 a p0 (cho_empty a p v)
  obtain ⟨d,hd,ed⟩:=d4 0 0 b p0 (cho_empty b p v)
  have e1:c.1=0:=congrArg (·.1) ec
  have e2:d.1=0:=congrArg (·.1) ed
  exact List.ne_nil_of_mem ((mem _).2 ⟨c,hc,d,hd,by rw [e1,e2]; rfl,rfl⟩)
 have hpl:=pll_length p
 rw [hpl]
 refine shares31 (by omega) c1 d1 c3 d3 hne3 (onLst_lst ?_)
 have hAl:(shA p.length cs ds).length≤1000000:=by
  have h1:=shA_len p.length ds cs
  have h2:cs.length * ds.length≤1000 * 1000:=Nat.mul_le_mul c1 d1
  omega
 refine min78x (N:=p.length) hne3 hAl (by omega) (fun z hz=>by
  obtain ⟨c,_,d,_,_,rfl⟩:=(mem z).1 hz
  exact wS_len _ _ _) (fun z hz hbest=>?_)
 obtain ⟨c,hc,d,hd,e0,rfl⟩:=(mem z).1 hz
 refine onAgg_agg (onCons_cons (onLst_lst (onCons_cons (onIntK_iv (onNil_nil ?_)))))
 refine h ka kb hG c.1 d.1 c.2.1 d.2.1 c.2.2.1 d.2.2.1 (c2 c hc).1 (d2 d hd).1 e0 (c2 c hc).2 (d2 d hd).2 ?_
 intro s' t' x' y' l' m' hs' ht' e' hx' hy'
 obtain ⟨c', hc', ec⟩:=c4 s' x' l' hs' hx'
 obtain ⟨d', hd', ed⟩:=d4 t' y' m' ht' hy'
 simp only [erC,Prod.mk.injEq] at ec ed
 have:=hbest _ ((mem _).2 ⟨c', hc', d', hd', by rw [ec.1,ed.1]; exact e', rfl⟩)
 simp only [shOf] at this
 rw [ec.1,ed.1,ec.2.1,ed.2.1] at this
 exact this
set_option maxRecDepth 100000
def kpR:FuncId→Nat→Option (List Tmp):=slotsOf [(73,0,[0,1,5]),(73,2,[1,6]),(117,0,[0,1,2,3,4,11,12]),(74,0,[0,1,2,3,9]),(74,2,[0,1,2,3,9,10]),(75,0,[0,1,5]),(76,0,[0,1,2,3,9,10]),(27,0,[0,1,2,6,9,10]),(27,2,[0,1,2,6,9,10,11,12,13]),(29,0,[0,1,2,3,12,13]),(29,2,[0,1,2,3,12,14,15,16]),(29,4,[0,1,2,3,12,14,15,16,17,18,19,20])]
def moR (f:FuncId):Nat:=bif inN [74,75] f then 4 else 0
noncomputable def cfR:Cfg:={ cfgM Try.prog glX moR tyC (inN [91,108]) kpR with fz:=fun f t=>f.beq 29&&t.beq 15 }
noncomputable def sh117 (p:List (List It)) (w:List Nat) (m:Nat) (x y n:Int) (k:Nat):St:=⟨mkT [(0,V.lst 1 (pll p)),(1,V.lst 1 (ul w)),(2,sv m),(3,iv x),(4,u8v y),(11,iv n),(12,iv (k:Int))],⟨[],0,[]⟩⟩
noncomputable def sh73a (p:List (List It)) (v:List Int) (k:Nat):St:=⟨mkT [(0,V.lst 1 (pll p)),(1,V.lst 1 (nl v)),(5,iv (k:Int))],⟨[],0,[]⟩⟩
noncomputable def sh73b (v:List Int) (k:Nat):St:=⟨mkT [(1,V.lst 1 (nl v)),(6,iv (k:Int))],⟨[],0,[]⟩⟩
noncomputable def sh74a (a:List It) (p:List (List It)) (w:List Nat) (m k:Nat):St:=⟨mkT [(0,V.lst 3 (itl a)),(1,V.lst 1 (pll p)),(2,V.lst 1 (ul w)),(3,sv m),(9,iv (k:Int))],⟨[],0,[]⟩⟩
noncomputable def sh74b (a:List It) (p:List (List It)) (w:List Nat) (m k j:Nat):St:=⟨mkT [(0,V.lst 3 (itl a)),(1,V.lst 1 (pll p)),(2,V.lst 1 (ul w)),(3,sv m),(9,iv (k:Int)),(10,iv (j:Int))],⟨[],0,[]⟩⟩
noncomputable def sh75 (u s:Nat) (a b:List Nat) (k:Nat):St:=⟨mkT [(0,V.lst u (nn a)),(1,V.lst s (nn b)),(5,iv (k:Int))],⟨[],0,[]⟩⟩
noncomputable def sh76n (a:List It) (p:List (List It)) (w:List Nat) (m k:Nat):St:=⟨mkT [(0,V.lst 3 (itl a)),(1,V.lst 1 (pll p)),(2,V.lst 1 (ul w)),(3,sv m),(9,nilS),(10,iv (k:Int))],⟨[],0,[]⟩⟩
noncomputable def sh76s (a:List It) (p:List (List It)) (w:List Nat) (m:Nat) (l:List It) (k:Nat):St:=⟨mkT [(0,V.lst 3 (itl a)),(1,V.lst 1 (pll p)),(2,V.lst 1 (ul w)),(3,sv m),(9,V.sl (Id.p 0) 0 l.length),(10,iv (k:Int))],⟨[(0,O.rows 3 true (itl l))],1,[]⟩⟩
end Go.Proofs.Ytmddjopahcbefaa
