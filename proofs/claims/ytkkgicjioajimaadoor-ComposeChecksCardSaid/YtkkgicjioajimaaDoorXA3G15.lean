/- A part of the proof. -/
import Derived.Test.YtkkgicjioajimaaDoorProg
import Derived.Test.YtkkgicjioajimaaDoorXA3G9
import Derived.Test.YtkkgicjioajimaaDoorXA3G10
import Derived.Test.YtkkgicjioajimaaDoorXA3G13
import Derived.Test.YtkkgicjioajimaaDoorXA3G14
namespace Go.Proofs.YtkkgicjioajimaaDoor
open Go Go.Proofs.YtkkgicjioajimaaDoor.Clean
set_option linter.unusedVariables false
set_option linter.unusedSimpArgs false
set_option maxRecDepth 10000
def liesP (w d h:Int) (c:List Nat) (l:List Pt) (x:Ld):Prop:=((0≤x.1∧x.1<l.length)∧(0≤x.2.1.1∧x.2.1.1<w)∧(0≤x.2.1.2.1∧x.2.1.2.1<d)∧0≤x.2.1.2.2∧x.2.1.2.2<h) ∧
 ∃ p,l[x.1.toNat]? = some p ∧ ¬ (x.2.2=true∧p.1=p.2.1)∧(∀ y,x.2.1.2.1≤y→y<x.2.1.2.1+sdp p x.2.2 → ∀ z,x.2.1.1≤z→z<x.2.1.1+swd p x.2.2→atN w d h c z y x.2.1.2.2=atN w d h c x.2.1.1 x.2.1.2.1 x.2.1.2.2) ∧
  atN w d h c x.2.1.1 x.2.1.2.1 x.2.1.2.2≠0∧(p.2.2.2=0∨p.2.2.2=atN w d h c x.2.1.1 x.2.1.2.1 x.2.1.2.2)
theorem lies81 {w d h:Int} {u:Nat} {c:List Nat} {l:List Pt} {x:Ld} {R:V→Prop} (hs:ShOK w d h c) (hu:u=1∨c=[]) (hpt:PtOK l) (h1:liesP w d h c l x→R (bv true)) (h0 : ¬ liesP w d h c l x→R (bv false)):K0G Tryd.prog glX 81 [.agg [iv w,iv d,iv h,.lst u (nb c)],.lst 4 (ptl l),.agg (ldR x)] R:=by
 have hw1:=hs.1; have hd1:=hs.2.1; have hh1:=hs.2.2.1
 have hl:=hpt.1
 refine K0_of_WY0 hmX hcMo 3000 Tryd.func81 (see (p:=ifB (decide (x.1 ≥ (0:Int))) (ifB (!decide (x.1≤IntKind.i64.wrap ((↑(ptl l).length:Int) - (1:Int)))) (R (bv false)) (ifB (decide (x.2.1.1 ≥ (0:Int))) (ifB (!decide (x.2.1.1≤IntKind.i64.wrap (w - (1:Int)))) (R (bv false)) (ifB (decide (x.2.1.2.1 ≥ (0:Int))) (ifB (!decide (x.2.1.2.1≤IntKind.i64.wrap (d - (1:Int)))) (R (bv false)) (ifB (decide (x.2.1.2.2 ≥ (0:Int))) (ifB (!decide (x.2.1.2.2≤IntKind.i64.wrap (h - (1:Int)))) (R (bv false)) (onNat x.1 fun m=>onSome (ptl l)[m]? fun row=>onCons (List.drop 0 row) fun u_1 r=>onIntK IntKind.i64 u_1 fun n=>onCons r fun u_2 r=>onIntK IntKind.i64 u_2 fun n_1=>onCons r fun u_3 r=>onIntK IntKind.i64 u_3 fun n_2=>onCons r fun u_4 r=>onIntK IntKind.u8 u_4 fun n_3=>ifB x.2.2 (ifB (n==n_1) (R (bv false)) (K0G Tryd.prog glX 103 [V.lst 4 (ptl l),V.agg [iv x.1,iv x.2.1.1,iv x.2.1.2.1,iv x.2.1.2.2,bv x.2.2]] fun v=>onTup v fun vs=>onCons vs fun u_5 r=>onIntK IntKind.i64 u_5 fun n_4=>onCons r fun u_6 r=>onIntK IntKind.i64 u_6 fun n_5=>onNil r (K0G Tryd.prog glX 67 [V.agg [iv w,iv d,iv h,V.lst u (nb c)],iv x.2.1.1,iv x.2.1.2.1,iv x.2.1.2.2] fun v=>onIntK IntKind.u8 v fun n_6=>La 0 [(3:Tmp),(5:Tmp),(7:Tmp),(8:Tmp),(9:Tmp),(10:Tmp),(11:Tmp)] (WY Tryd.prog cfM 2990 (Env.mk (Bs.mk 0 []) 0 none 127 81 0) (cdAt [1,1,1,1,1,1,0,1,0,0] (bodyOf Tryd.f81))) (Qblk 0 (Qthen (WY Tryd.prog cfM 2993 (Env.mk (Bs.mk 0 []) 0 none 127 81 0) (cdAt [1,1,1,1,1,1,1] (bodyOf Tryd.f81)) (QendX Tryd.prog Tryd.f81 fun v h=>R (frzW h v))) (QendX Tryd.prog Tryd.f81 fun v h=>R (frzW h v)))) (St.mk (mkT [(3,V.ptr (Id.p 0) 0 0),(5,V.ptr (Id.p 1) 0 0),(7,V.ptr (Id.p 2) 0 0),(8,iv n_4),(9,iv n_5),(10,V.raw (Value.int IntKind.u8 n_6)),(11,iv x.2.1.2.1)]) (Hp.mk [(0,O.rows 4 false [[iv w,iv d,iv h,V.lst u (nb c)]]),(1,O.rows 5 false [[iv x.1,iv x.2.1.1,iv x.2.1.2.1,iv x.2.1.2.2,bv x.2.2]]),(2,O.rows 4 false [[iv n,iv n_1,iv n_2,V.raw (Value.int IntKind.u8 n_3)]])] 3 []))))) (K0G Tryd.prog glX 103 [V.lst 4 (ptl l),V.agg [iv x.1,iv x.2.1.1,iv x.2.1.2.1,iv x.2.1.2.2,bv x.2.2]] fun v=>onTup v fun vs=>onCons vs fun u_5 r=>onIntK IntKind.i64 u_5 fun n_4=>onCons r fun u_6 r=>onIntK IntKind.i64 u_6 fun n_5=>onNil r (K0G Tryd.prog glX 67 [V.agg [iv w,iv d,iv h,V.lst u (nb c)],iv x.2.1.1,iv x.2.1.2.1,iv x.2.1.2.2] fun v=>onIntK IntKind.u8 v fun n_6=>La 0 [(3:Tmp),(5:Tmp),(7:Tmp),(8:Tmp),(9:Tmp),(10:Tmp),(11:Tmp)] (WY Tryd.prog cfM 2990 (Env.mk (Bs.mk 0 []) 0 none 127 81 0) (cdAt [1,1,1,1,1,1,0,1,0,0] (bodyOf Tryd.f81))) (Qblk 0 (Qthen (WY Tryd.prog cfM 2993 (Env.mk (Bs.mk 0 []) 0 none 127 81 0) (cdAt [1,1,1,1,1,1,1] (bodyOf Tryd.f81)) (QendX Tryd.prog Tryd.f81 fun v h=>R (frzW h v))) (QendX Tryd.prog Tryd.f81 fun v h=>R (frzW h v)))) (St.mk (mkT [(3,V.ptr (Id.p 0) 0 0),(5,V.ptr (Id.p 1) 0 0),(7,V.ptr (Id.p 2) 0 0),(8,iv n_4),(9,iv n_5),(10,V.raw (Value.int IntKind.u8 n_6)),(11,iv x.2.1.2.1)]) (Hp.mk [(0,O.rows 4 false [[iv w,iv d,iv h,V.lst u (nb c)]]),(1,O.rows 5 false [[iv x.1,iv x.2.1.1,iv x.2.1.2.1,iv x.2.1.2.2,bv x.2.2]]),(2,O.rows 4 false [[iv n,iv n_1,iv n_2,V.raw (Value.int IntKind.u8 n_3)]])] 3 [])))))) (R (bv false)))) (R (bv false)))) (R (bv false)))) (R (bv false))) (by kernel_rfl) ?_)
 rw [ptl_length,wrapI (n:=(l.length:Int) - 1) (by omega) (by omega),wrapI (n:=w - 1) (by omega) (by omega),wrapI (n:=d - 1) (by omega) (by omega),wrapI (n:=h - 1) (by omega) (by omega)]
 refine ifB_mk (fun e1=>?_) (fun e1=>h0 fun q=>by have:=q.1; simp at e1; omega)
 refine ifB_mk (fun e2=>h0 fun q=>by have:=q.1; simp at e2; omega) (fun e2=>?_)
 refine ifB_mk (fun e3=>?_) (fun e3=>h0 fun q=>by have:=q.1; simp at e3; omega)
 refine ifB_mk (fun e4=>h0 fun q=>by have:=q.1; simp at e4; omega) (fun e4=>?_)
 refine ifB_mk (fun e5=>?_) (fun e5=>h0 fun q=>by have:=q.1; simp at e5; omega)
 refine ifB_mk (fun e6=>h0 fun q=>by have:=q.1; simp at e6; omega) (fun e6=>?_)
 refine ifB_mk (fun e7=>?_) (fun e7=>h0 fun q=>by have:=q.1; simp at e7; omega)
 refine ifB_mk (fun e8=>h0 fun q=>by have:=q.1; simp at e8; omega) (fun e8=>?_)
 simp at e1 e2 e3 e4 e5 e6 e7 e8
 have hq:(0≤x.1∧x.1<l.length)∧(0≤x.2.1.1∧x.2.1.1<w)∧(0≤x.2.1.2.1∧x.2.1.2.1<d)∧0≤x.2.1.2.2∧x.2.1.2.2<h:=by omega
 clear e1 e2 e3 e4 e5 e6 e7 e8
 obtain ⟨p,hp⟩:=getI (l:=l) (k:=x.1.toNat) (by omega)
 have hpo:=hpt.2.1 _ p hp
 have hsz:=swd_le hpo x.2.2
 have hxi:x.1=(x.1.toNat:Int):=by omega
 obtain ⟨sw,hsw⟩ : ∃ sw:Int,sw=swd p x.2.2:=⟨_,rfl⟩
 obtain ⟨sd,hsd⟩ : ∃ sd:Int,sd=sdp p x.2.2:=⟨_,rfl⟩
 obtain ⟨col,hcol⟩ : ∃ col:Int,col=(atN w d h c x.2.1.1 x.2.1.2.1 x.2.1.2.2:Int):=⟨_,rfl⟩
 rw [← hsw,← hsd] at hsz
 have get : ∀ q:liesP w d h c l x, ¬ (x.2.2=true∧p.1=p.2.1)∧(∀ y,x.2.1.2.1≤y→y<x.2.1.2.1+sd → ∀ z,x.2.1.1≤z→z<x.2.1.1+sw→atN w d h c z y x.2.1.2.2=atN w d h c x.2.1.1 x.2.1.2.1 x.2.1.2.2)∧atN w d h c x.2.1.1 x.2.1.2.1 x.2.1.2.2≠0∧(p.2.2.2=0∨p.2.2.2=atN w d h c x.2.1.1 x.2.1.2.1 x.2.1.2.2):=by
  rintro ⟨_,p', g1,g2⟩
  rw [hp] at g1
  cases g1
  rw [hsw,hsd]
  exact g2
 have tail : ¬ (x.2.2=true∧p.1=p.2.1)→La 0 [(3:Tmp),(5:Tmp),(7:Tmp),(8:Tmp),(9:Tmp),(10:Tmp),(11:Tmp)] (WY Tryd.prog cfM 2990 (Env.mk (Bs.mk 0 []) 0 none 127 81 0) (cdAt [1,1,1,1,1,1,0,1,0,0] (bodyOf Tryd.f81))) (Qblk 0 (Qthen (WY Tryd.prog cfM 2993 (Env.mk (Bs.mk 0 []) 0 none 127 81 0) (cdAt [1,1,1,1,1,1,1] (bodyOf Tryd.f81)) (QendX Tryd.prog Tryd.f81 fun v h=>R (frzW h v))) (QendX Tryd.prog Tryd.f81 fun v h=>R (frzW h v)))) (sh81a w d h u c x p sw sd col x.2.1.2.1):=by
  intro hns
  refine La.of (σ:=Int) (fun y=>sh81a w d h u c x p sw sd col y) (fun y=>x.2.1.2.1≤y∧y≤x.2.1.2.1+sd ∧ ∀ y', x.2.1.2.1≤y' → y' < y → ∀ z,x.2.1.1≤z→z<x.2.1.1+sw→atN w d h c z y' x.2.1.2.2=atN w d h c x.2.1.1 x.2.1.2.1 x.2.1.2.2) (fun y=>(x.2.1.2.1+sd - y).toNat) x.2.1.2.1 (by kernel_rfl) ⟨Int.le_refl _,by omega,fun y' _ _=>by omega⟩ ?_
  rintro y ⟨k1,k2,k3⟩ J hJ
  refine see (p:=ifB (decide (y<IntKind.i64.wrap (x.2.1.2.1+sd))) (La 0 [(3:Tmp),(5:Tmp),(7:Tmp),(8:Tmp),(9:Tmp),(10:Tmp),(11:Tmp),(12:Tmp)] (WY Tryd.prog cfM 2984 (Env.mk (Bs.mk 0 []) 0 none 127 81 2) (cdAt [1,1,1,1,1,1,0,1,0,0,1,0,0,1,0,0] (bodyOf Tryd.f81))) (Qblk 2 (Qblk 1 (Qthen (WY Tryd.prog cfM 2988 (Env.mk (Bs.mk 0 []) 0 none 127 81 0) (cdAt [1,1,1,1,1,1,0,1,0,0,1,1] (bodyOf Tryd.f81)) (Qla 0 [(3:Tmp),(5:Tmp),(7:Tmp),(8:Tmp),(9:Tmp),(10:Tmp),(11:Tmp)] J (Qblk 0 (Qthen (WY Tryd.prog cfM 2993 (Env.mk (Bs.mk 0 []) 0 none 127 81 0) (cdAt [1,1,1,1,1,1,1] (bodyOf Tryd.f81)) (QendX Tryd.prog Tryd.f81 fun v h=>R (frzW h v))) (QendX Tryd.prog Tryd.f81 fun v h=>R (frzW h v)))))) (Qla 0 [(3:Tmp),(5:Tmp),(7:Tmp),(8:Tmp),(9:Tmp),(10:Tmp),(11:Tmp)] J (Qblk 0 (Qthen (WY Tryd.prog cfM 2993 (Env.mk (Bs.mk 0 []) 0 none 127 81 0) (cdAt [1,1,1,1,1,1,1] (bodyOf Tryd.f81)) (QendX Tryd.prog Tryd.f81 fun v h=>R (frzW h v))) (QendX Tryd.prog Tryd.f81 fun v h=>R (frzW h v)))))))) (St.mk (mkT [(3,V.ptr (Id.p 0) 0 0),(5,V.ptr (Id.p 1) 0 0),(7,V.ptr (Id.p 2) 0 0),(8,iv sw),(9,iv sd),(10,V.raw (Value.int IntKind.u8 col)),(11,iv y),(12,iv x.2.1.1)]) (Hp.mk [(0,O.rows 4 false [[iv w,iv d,iv h,V.lst u (nb c)]]),(1,O.rows 5 false [[iv x.1,iv x.2.1.1,iv x.2.1.2.1,iv x.2.1.2.2,bv x.2.2]]),(2,O.rows 4 false [[iv p.1,iv p.2.1,iv p.2.2.1,V.raw (Value.int IntKind.u8 (↑p.2.2.2:Int))]])] 3 []))) (ifB (col != (0:Int)) (ifB ((↑p.2.2.2:Int)==(0:Int)) (R (bv true)) (R (bv ((↑p.2.2.2:Int)==col)))) (R (bv false)))) (by kernel_rfl) ?_
  rw [wrapI (n:=x.2.1.2.1+sd) (by omega) (by omega)]
  refine ifB_mk (fun hb=>?_) (fun hb=>?_)
  ·have hlt:=of_decide_eq_true hb
   refine La.of (σ:=Int) (fun z=>sh81b w d h u c x p sw sd col y z) (fun z=>x.2.1.1≤z∧z≤x.2.1.1+sw ∧ ∀ z', x.2.1.1≤z' → z' < z→atN w d h c z' y x.2.1.2.2=atN w d h c x.2.1.1 x.2.1.2.1 x.2.1.2.2) (fun z=>(x.2.1.1+sw - z).toNat) x.2.1.1 (by kernel_rfl) ⟨Int.le_refl _,by omega,fun z' _ _=>by omega⟩ ?_
   rintro z ⟨m1,m2,m3⟩ J2 hJ2
   refine see (p:=ifB (decide (z<IntKind.i64.wrap (x.2.1.1+sw))) (K0G Tryd.prog glX 67 [V.agg [iv w,iv d,iv h,V.lst u (nb c)],iv z,iv y,iv x.2.1.2.2] fun v=>onIntK IntKind.u8 v fun n=>ifB (n != col) (R (bv false)) (J2 (St.mk (mkT [(3,V.ptr (Id.p 0) 0 0),(5,V.ptr (Id.p 1) 0 0),(7,V.ptr (Id.p 2) 0 0),(8,iv sw),(9,iv sd),(10,V.raw (Value.int IntKind.u8 col)),(11,iv y),(12,iv (IntKind.i64.wrap (z+(1:Int))))]) (Hp.mk [(0,O.rows 4 false [[iv w,iv d,iv h,V.lst u (nb c)]]),(1,O.rows 5 false [[iv x.1,iv x.2.1.1,iv x.2.1.2.1,iv x.2.1.2.2,bv x.2.2]]),(2,O.rows 4 false [[iv p.1,iv p.2.1,iv p.2.2.1,V.raw (Value.int IntKind.u8 (↑p.2.2.2:Int))]])] 3 [])))) (J (St.mk (mkT [(3,V.ptr (Id.p 0) 0 0),(5,V.ptr (Id.p 1) 0 0),(7,V.ptr (Id.p 2) 0 0),(8,iv sw),(9,iv sd),(10,V.raw (Value.int IntKind.u8 col)),(11,iv (IntKind.i64.wrap (y+(1:Int))))]) (Hp.mk [(0,O.rows 4 false [[iv w,iv d,iv h,V.lst u (nb c)]]),(1,O.rows 5 false [[iv x.1,iv x.2.1.1,iv x.2.1.2.1,iv x.2.1.2.2,bv x.2.2]]),(2,O.rows 4 false [[iv p.1,iv p.2.1,iv p.2.2.1,V.raw (Value.int IntKind.u8 (↑p.2.2.2:Int))]])] 3 [])))) (by kernel_rfl) ?_
   rw [wrapI (n:=x.2.1.1+sw) (by omega) (by omega)]
   refine ifB_mk (fun hc=>?_) (fun hc=>?_)
   ·have hlz:=of_decide_eq_true hc
    refine at67 hs hu (onIntK_u8 (ifB_mk (fun e=>h0 fun q=>?_) (fun e=>?_)))
    ·have:=(get q).2.1 y k1 hlt z m1 hlz
     rw [hcol,this] at e; simp at e
    ·have e:atN w d h c z y x.2.1.2.2=atN w d h c x.2.1.1 x.2.1.2.1 x.2.1.2.2:=by simp at e; omega
     rw [wrapI (n:=z+1) (by omega) (by omega)]
     refine hJ2 (z+1) ⟨by omega,by omega,fun z' g1 g2=>?_⟩ (by omega)
     by_cases g:z' = z
     ·rw [g]; exact e
     ·exact m3 z' g1 (by omega)
   ·have hge:=of_decide_eq_false hc
    rw [wrapI (n:=y+1) (by omega) (by omega)]
    refine hJ (y+1) ⟨by omega,by omega,fun y' g1 g2 z' f1 f2=>?_⟩ (by omega)
    by_cases g:y' = y
    ·rw [g]; exact m3 z' f1 (by omega)
    ·exact k3 y' g1 (by omega) z' f1 f2
  ·have hge:=of_decide_eq_false hb
   refine ifB_mk (fun e=>?_) (fun e=>h0 fun q=>?_)
   ·have e:atN w d h c x.2.1.1 x.2.1.2.1 x.2.1.2.2≠0:=by simp at e; omega
    have all:(p.2.2.2=0∨p.2.2.2=atN w d h c x.2.1.1 x.2.1.2.1 x.2.1.2.2)→liesP w d h c l x:=fun hc=>⟨hq,p,hp,hns,fun y' g1 g2 z' g3 g4=>k3 y' g1 (by omega) z' g3 (by omega),e,hc⟩
    refine ifB_mk (fun f=>h1 (all (.inl ?_))) (fun f=>?_)
    ·simp at f; omega
    ·by_cases g:p.2.2.2=atN w d h c x.2.1.1 x.2.1.2.1 x.2.1.2.2
     ·rw [show (((p.2.2.2:Nat):Int)==col)=true by rw [hcol,g]; simp]
      exact h1 (all (.inr g))
     ·rw [show (((p.2.2.2:Nat):Int)==col)=false by rw [hcol]; simp; omega]
      refine h0 fun q=>?_
      have:=(get q).2.2.2
      simp at f
      omega
   ·have:=(get q).2.2.1
    simp at e
    omega
 refine onNat_mk hxi (ptel hp ?_)
 refine ifB_mk (fun e=>ifB_mk (fun f=>h0 fun q=>(get q).1 ⟨e,by simpa using f⟩) (fun f=>?_)) (fun e=>?_)
 ·refine size103 (x:=x) hxi hp (onTup_tup (onCons_cons (onIntK_iv (onCons_cons (onIntK_iv (onNil_nil (at67 hs hu (onIntK_u8 ?_))))))))
  rw [← hsw,← hsd,← hcol]
  exact tail fun q=>by have:=q.2; simp at f; omega
 ·refine size103 (x:=x) hxi hp (onTup_tup (onCons_cons (onIntK_iv (onCons_cons (onIntK_iv (onNil_nil (at67 hs hu (onIntK_u8 ?_))))))))
  rw [← hsw,← hsd,← hcol]
  exact tail fun q=>by have:=q.1; simp [e] at this
theorem lda {cs:List Ld} {i:Nat} {x:Ld} (h:cs[i]? = some x):(ldl cs)[i]? = some (ldR x):=by simp [ldl,h]
theorem ldel1 {l:List Ld} {i:Nat} {x:Ld} {k:Int→Int→Int→Prop} (h:l[i]? = some x) (hk:k x.2.1.1 x.2.1.2.1 x.2.1.2.2):onSome (ldl l)[i]? fun row=>onCons (List.drop 1 row) fun u r=>onIntK IntKind.i64 u fun b=>onCons r fun u r=>onIntK IntKind.i64 u fun c=>onCons r fun u r=>onIntK IntKind.i64 u fun d=>k b c d :=
 onSome_mk (lda h) (onCons_cons (onIntK_iv (onCons_cons (onIntK_iv (onCons_cons (onIntK_iv hk))))))
def usedN (cs:List Ld) (i m:Nat):Nat:=(cs.take i).countP fun x=>decide (x.1=(m:Int))
theorem usedN_succ {cs:List Ld} {i m:Nat} {x:Ld} (h:cs[i]? = some x):usedN cs (i+1) m=usedN cs i m+if x.1=(m:Int) then 1 else 0:=by
 unfold usedN
 rw [List.take_add_one,h,List.countP_append]
 simp [List.countP_cons]
theorem usedN_le (cs:List Ld) (i m:Nat):usedN cs i m≤cs.length:=by
 unfold usedN
 have:=List.countP_le_length (p:=fun x:Ld=>decide (x.1=(m:Int))) (l:=cs.take i)
 rw [List.length_take] at this
 omega
def compAt (w d h:Int) (c:List Nat) (l:List Pt) (cs:List Ld) (i:Nat) (x:Ld):Prop:=liesP w d h c l x∧(∀ y,0<i→cs[i - 1]? = some y→ixI w d y.2.1<ixI w d x.2.1) ∧ ∀ p,l[x.1.toNat]? = some p→(usedN cs (i+1) x.1.toNat:Int)≤p.2.2.1
def compP (w d h:Int) (c:List Nat) (l:List Pt) (cs:List Ld):Prop:=(∀ i x,cs[i]? = some x→compAt w d h c l cs i x) ∧ ∀ i,i<c.length→c.getD i 0≠0→0≤byI l cs (cel w d i).1 (cel w d i).2.1 (cel w d i).2.2
theorem lies_ok {w d h:Int} {c:List Nat} {l:List Pt} {x:Ld} (hs:ShOK w d h c) (hpt:PtOK l) (h:liesP w d h c l x):LdOK l x:=by
 obtain ⟨⟨h1,h2,h3,h4⟩,p,hp,_⟩:=h
 have:=hs.1; have:=hs.2.1
 exact ⟨x.1.toNat,p,by omega,hp,hpt.2.1 _ p hp,by omega,by omega⟩
theorem tail54 {w d h:Int} {u:Nat} {c:List Nat} {l:List Pt} {sc:Nat} {cs:List Ld} {us:List Int} {i m:Nat} {x:Ld} {p:Pt} {A:Prop} {J:St→Prop} (hsc:sc=5) (hi:cs[i]? = some x) (hx:x.1=(m:Int)) (hm:m<us.length) (hp:l[m]? = some p) (hi' : i≤1000) (hu:us.getD m 0 ≥ 0∧us.getD m 0≤1000)
  (hA:us.getD m 0+1 > p.2.2.1→A) (hJ:us.getD m 0+1≤p.2.2.1→J (sh54a w d h u c l sc cs (us.set m (us.getD m 0+1)) (i+1))) :
  need (sc=5) (onSome (ldl cs)[i]? fun row=>onSome row[0]? fun v=>onIntK IntKind.i64 v fun n=>onNat n fun m=>need (m<us.length) (onSome (List.map (fun x=>[iv x]) us)[0+m]? fun row=>onSome row[0]? fun v=>onIntK IntKind.i64 v fun n_10=>onNat n fun m=>need (m<us.length) (onSome (List.map (fun x=>[iv x]) us)[0+m]? fun row=>guardB ((0+1).ble row.length) (need (sc=5) (onSome (ldl cs)[i]? fun row_1=>onSome row_1[0]? fun v=>onIntK IntKind.i64 v fun n=>onNat n fun m_1=>need (m_1<us.length) (onSome ((List.map (fun x=>[iv x]) us).set (0+m) (iv (IntKind.i64.wrap (n_10+(1:Int)))::(List.append []) (List.drop 1 row)))[0+m_1]? fun row_2=>onSome row_2[0]? fun v=>onIntK IntKind.i64 v fun n=>need (sc=5) (onSome (ldl cs)[i]? fun row_3=>onSome row_3[0]? fun v=>onIntK IntKind.i64 v fun n_11=>onNat n_11 fun m_2=>onSome (ptl l)[m_2]? fun row_4=>onSome row_4[2]? fun v=>onIntK IntKind.i64 v fun n_12=>ifB (decide (n > n_12)) A (J (St.mk (mkT [(1,V.lst 4 (ptl l)),(2,V.lst sc (ldl cs)),(3,V.ptr (Id.p 0) 0 0),(7,V.sl (Id.p 1) 0 us.length),(8,iv (IntKind.i64.wrap ((i:Int)+(1:Int))))]) (Hp.mk [(0,O.rows 4 false [[iv w,iv d,iv h,V.lst u (nb c)]]),(1,O.rows 1 true ((List.map (fun x=>[iv x]) us).set (0+m) (iv (IntKind.i64.wrap (n_10+(1:Int)))::(List.append []) (List.drop 1 row))))] 2 [])))))))))):=by
 have hat:(List.map (fun x=>[iv x]) us)[0+m]? = some [iv (us.getD m 0)]:=il_at hm
 have hw:IntKind.i64.wrap (us.getD m 0+1)=us.getD m 0+1:=wrapI (by omega) (by omega)
 have hset:(List.map (fun x=>[iv x]) us).set (0+m) (iv (us.getD m 0+1)::(List.append []) (List.drop 1 [iv (us.getD m 0)]))=il (us.set m (us.getD m 0+1)):=il_set
 have hat2:((List.map (fun x=>[iv x]) us).set (0+m) (iv (IntKind.i64.wrap (us.getD m 0+1))::(List.append []) (List.drop 1 [iv (us.getD m 0)])))[0+m]? = some [iv (us.getD m 0+1)]:=by
  rw [hw,hset,il_at (by rw [List.length_set]; exact hm)]
  simp [List.getD,hm]
 have hl:=lda hi
 refine need_mk ⟨hsc,onSome_mk hl (onSome_mk rfl (onIntK_iv (onNat_mk hx (need_mk ⟨hm,?_⟩))))⟩
 refine onSome_mk hat (onSome_mk rfl (onIntK_iv (onNat_mk hx (need_mk ⟨hm,?_⟩))))
 refine onSome_mk hat (guardB_mk rfl (need_mk ⟨hsc,?_⟩))
 refine onSome_mk hl (onSome_mk rfl (onIntK_iv (onNat_mk hx (need_mk ⟨hm,?_⟩))))
 refine onSome_mk hat2 (onSome_mk rfl (onIntK_iv (need_mk ⟨hsc,?_⟩)))
 refine onSome_mk hl (onSome_mk rfl (onIntK_iv (onNat_mk hx (onSome_mk (ptat hp) (onSome_mk rfl (onIntK_iv ?_))))))
 refine ifB_mk (fun hb=>hA (of_decide_eq_true hb)) (fun hb=>?_)
 have hJ:=hJ (by have:=of_decide_eq_false hb; omega)
 unfold sh54a at hJ
 rw [List.length_set] at hJ
 rw [hw,hset,wrapI (n:=(i:Int)+1) (by omega) (by omega)]
 exact hJ
theorem comp54 {w d h:Int} {u:Nat} {c:List Nat} {l:List Pt} {sc:Nat} {cs:List Ld} {R:V→Prop} (hs:ShOK w d h c) (hu:u=1∨c=[]) (hpt:PtOK l) (hsc:sc=5∨cs=[]) (hcs:cs.length≤900) (h1:compP w d h c l cs→R (bv true)) (h0 : ¬ compP w d h c l cs→R (bv false)):K0G Tryd.prog glX 54 [.agg [iv w,iv d,iv h,.lst u (nb c)],.lst 4 (ptl l),.lst sc (ldl cs)] R:=by
 have hw1:=hs.1; have hd1:=hs.2.1; have hh1:=hs.2.2.1
 have hlen:=hs.2.2.2.1
 have sz:=sizes hw1 hd1 hh1
 have hl:=hpt.1
 refine K0_of_WY0 hmX hcMo 3000 Tryd.func54 (see (p:=need ((ptl l).length≤(ptl l).length) (need (8 * (ptl l).length≤140737488355328) (need ((ptl l).length≤9223372036854775807) (La 0 [(1:Tmp),(2:Tmp),(3:Tmp),(7:Tmp),(8:Tmp)] (WY Tryd.prog cfM 2994 (Env.mk (Bs.mk 0 []) 0 none 114 54 0) (cdAt [1,1,0,1,0,0] (bodyOf Tryd.f54))) (Qblk 0 (Qthen (WY Tryd.prog cfM 2997 (Env.mk (Bs.mk 0 []) 0 none 114 54 0) (cdAt [1,1,1] (bodyOf Tryd.f54)) (QendX Tryd.prog Tryd.f54 fun v h=>R (frzW h v))) (QendX Tryd.prog Tryd.f54 fun v h=>R (frzW h v)))) (St.mk (mkT [(1,V.lst 4 (ptl l)),(2,V.lst sc (ldl cs)),(3,V.ptr (Id.p 0) 0 0),(7,V.sl (Id.p 1) 0 (ptl l).length),(8,iv (0:Int))]) (Hp.mk [(0,O.rows 4 false [[iv w,iv d,iv h,V.lst u (nb c)]]),(1,O.rows 1 true (List.replicate (ptl l).length [iv (0:Int)]))] 2 [])))))) (by kernel_rfl) ?_)
 rw [ptl_length]
 refine need_mk ⟨Nat.le_refl _,need_mk ⟨by omega,need_mk ⟨by omega,?_⟩⟩⟩
 refine La.of (σ:=List Int×Nat) (fun s=>sh54a w d h u c l sc cs s.1 s.2) (fun s=>s.2≤cs.length∧s.1.length=l.length∧(∀ m,m<l.length→s.1.getD m 0=(usedN cs s.2 m:Int)) ∧ ∀ j x,j<s.2→cs[j]? = some x→compAt w d h c l cs j x) (fun s=>cs.length - s.2) (List.replicate l.length 0,0)
  (by unfold sh54a; simp only [List.length_replicate,List.map_replicate]; kernel_rfl) ⟨Nat.zero_le _,by simp,fun m hm=>by simp [usedN,List.getD,hm],fun j x hj=>by omega⟩ ?_
 rintro ⟨us,i⟩ ⟨k1,k2,k3,k4⟩ J hJ
 simp only at k1 k2 k3 k4
 refine see (p:=ifB (decide ((↑i:Int)<(↑(ldl cs).length:Int))) (need (sc=5) (onSome (ldl cs)[i]? fun row=>onCons (List.drop 0 row) fun u_1 r=>onIntK IntKind.i64 u_1 fun n=>onCons r fun u_2 r=>onIntK IntKind.i64 u_2 fun n_1=>onCons r fun u_3 r=>onIntK IntKind.i64 u_3 fun n_2=>onCons r fun u_4 r=>onIntK IntKind.i64 u_4 fun n_3=>onCons r fun u_5 r=>onBool u_5 fun b=>K0G Tryd.prog glX 81 [V.agg [iv w,iv d,iv h,V.lst u (nb c)],V.lst 4 (ptl l),V.agg [iv n,iv n_1,iv n_2,iv n_3,bv b]] fun v=>onBool v fun b=>ifB (!b) (R (bv false)) (ifB (decide ((↑i:Int) > (0:Int))) (need (sc=5) (onSome (ldl cs)[i]? fun row=>onCons (List.drop 1 row) fun u_6 r=>onIntK IntKind.i64 u_6 fun n=>onCons r fun u_7 r=>onIntK IntKind.i64 u_7 fun n_4=>onCons r fun u_8 r=>onIntK IntKind.i64 u_8 fun n_5=>onNat (IntKind.i64.wrap ((↑i:Int) - (1:Int))) fun m=>need (sc=5) (onSome (ldl cs)[m]? fun row=>onCons (List.drop 1 row) fun u_9 r=>onIntK IntKind.i64 u_9 fun n_6=>onCons r fun u_10 r=>onIntK IntKind.i64 u_10 fun n_7=>onCons r fun u_11 r=>onIntK IntKind.i64 u_11 fun n_8=>K0G Tryd.prog glX 82 [V.agg [iv w,iv d,iv h,V.lst u (nb c)],V.agg [iv n,iv n_4,iv n_5]] fun v=>onIntK IntKind.i64 v fun n=>K0G Tryd.prog glX 82 [V.agg [iv w,iv d,iv h,V.lst u (nb c)],V.agg [iv n_6,iv n_7,iv n_8]] fun v=>onIntK IntKind.i64 v fun n_9=>ifB (decide (n≤n_9)) (R (bv false)) (need (sc=5) (onSome (ldl cs)[i]? fun row=>onSome row[0]? fun v=>onIntK IntKind.i64 v fun n=>onNat n fun m=>need (m<us.length) (onSome (List.map (fun x=>[iv x]) us)[0+m]? fun row=>onSome row[0]? fun v=>onIntK IntKind.i64 v fun n_10=>onNat n fun m=>need (m<us.length) (onSome (List.map (fun x=>[iv x]) us)[0+m]? fun row=>guardB ((0+1).ble row.length) (need (sc=5) (onSome (ldl cs)[i]? fun row_1=>onSome row_1[0]? fun v=>onIntK IntKind.i64 v fun n=>onNat n fun m_1=>need (m_1<us.length) (onSome ((List.map (fun x=>[iv x]) us).set (0+m) (iv (IntKind.i64.wrap (n_10+(1:Int)))::(List.append []) (List.drop 1 row)))[0+m_1]? fun row_2=>onSome row_2[0]? fun v=>onIntK IntKind.i64 v fun n=>need (sc=5) (onSome (ldl cs)[i]? fun row_3=>onSome row_3[0]? fun v=>onIntK IntKind.i64 v fun n_11=>onNat n_11 fun m_2=>onSome (ptl l)[m_2]? fun row_4=>onSome row_4[2]? fun v=>onIntK IntKind.i64 v fun n_12=>ifB (decide (n > n_12)) (R (bv false)) (J (St.mk (mkT [(1,V.lst 4 (ptl l)),(2,V.lst sc (ldl cs)),(3,V.ptr (Id.p 0) 0 0),(7,V.sl (Id.p 1) 0 us.length),(8,iv (IntKind.i64.wrap ((↑i:Int)+(1:Int))))]) (Hp.mk [(0,O.rows 4 false [[iv w,iv d,iv h,V.lst u (nb c)]]),(1,O.rows 1 true ((List.map (fun x=>[iv x]) us).set (0+m) (iv (IntKind.i64.wrap (n_10+(1:Int)))::(List.append []) (List.drop 1 row))))] 2 [])))))))))))))) (need (sc=5) (onSome (ldl cs)[i]? fun row=>onSome row[0]? fun v=>onIntK IntKind.i64 v fun n=>onNat n fun m=>need (m<us.length) (onSome (List.map (fun x=>[iv x]) us)[0+m]? fun row=>onSome row[0]? fun v=>onIntK IntKind.i64 v fun n_4=>onNat n fun m=>need (m<us.length) (onSome (List.map (fun x=>[iv x]) us)[0+m]? fun row=>guardB ((0+1).ble row.length) (need (sc=5) (onSome (ldl cs)[i]? fun row_1=>onSome row_1[0]? fun v=>onIntK IntKind.i64 v fun n=>onNat n fun m_1=>need (m_1<us.length) (onSome ((List.map (fun x=>[iv x]) us).set (0+m) (iv (IntKind.i64.wrap (n_4+(1:Int)))::(List.append []) (List.drop 1 row)))[0+m_1]? fun row_2=>onSome row_2[0]? fun v=>onIntK IntKind.i64 v fun n=>need (sc=5) (onSome (ldl cs)[i]? fun row_3=>onSome row_3[0]? fun v=>onIntK IntKind.i64 v fun n_5=>onNat n_5 fun m_2=>onSome (ptl l)[m_2]? fun row_4=>onSome row_4[2]? fun v=>onIntK IntKind.i64 v fun n_6=>ifB (decide (n > n_6)) (R (bv false)) (J (St.mk (mkT [(1,V.lst 4 (ptl l)),(2,V.lst sc (ldl cs)),(3,V.ptr (Id.p 0) 0 0),(7,V.sl (Id.p 1) 0 us.length),(8,iv (IntKind.i64.wrap ((↑i:Int)+(1:Int))))]) (Hp.mk [(0,O.rows 4 false [[iv w,iv d,iv h,V.lst u (nb c)]]),(1,O.rows 1 true ((List.map (fun x=>[iv x]) us).set (0+m) (iv (IntKind.i64.wrap (n_4+(1:Int)))::(List.append []) (List.drop 1 row))))] 2 [])))))))))))))) (La 0 [(1:Tmp),(2:Tmp),(3:Tmp),(9:Tmp)] (WY Tryd.prog cfM 2993 (Env.mk (Bs.mk 0 []) 0 none 114 54 2) (cdAt [1,1,1,0,1,0,0] (bodyOf Tryd.f54))) (Qblk 2 (Qthen (WY Tryd.prog cfM 2996 (Env.mk (Bs.mk 0 []) 0 none 114 54 0) (cdAt [1,1,1,1] (bodyOf Tryd.f54)) (QendX Tryd.prog Tryd.f54 fun v h=>R (frzW h v))) (QendX Tryd.prog Tryd.f54 fun v h=>R (frzW h v)))) (St.mk (mkT [(1,V.lst 4 (ptl l)),(2,V.lst sc (ldl cs)),(3,V.ptr (Id.p 0) 0 0),(9,iv (0:Int))]) (Hp.mk [(0,O.rows 4 false [[iv w,iv d,iv h,V.lst u (nb c)]])] 1 [])))) (by kernel_rfl) ?_
 refine ifB_mk (fun hb=>?_) (fun hb=>?_) <;> rw [ldl_length] at hb
 ·have hlt:i<cs.length:=by have:=of_decide_eq_true hb; omega
  obtain ⟨x,hi⟩:=getI hlt
  have hsc5:sc=5:=hsc.resolve_right (by rintro rfl; simp at hlt)
  refine need_mk ⟨hsc5,ldel hi (lies81 (x:=x) hs hu hpt (fun hlie=>onBool_bv (ifB_f rfl ?_)) (fun hlie=>onBool_bv (ifB_t rfl (h0 fun q=>hlie (q.1 i x hi).1))))⟩
  have hx1:x.1=(x.1.toNat:Int):=by have:=hlie.1.1; omega
  have hxl:x.1.toNat<l.length:=by have:=hlie.1.1; omega
  obtain ⟨p,hp⟩:=getI hxl
  have hus:=usedN_succ (m:=x.1.toNat) hi
  rw [if_pos hx1] at hus
  have hu1:=k3 _ hxl
  have hule:=usedN_le cs i x.1.toNat
  have fin:(∀ y,0<i→cs[i - 1]? = some y→ixI w d y.2.1<ixI w d x.2.1)→us.getD x.1.toNat 0+1≤p.2.2.1→J (sh54a w d h u c l sc cs (us.set x.1.toNat (us.getD x.1.toNat 0+1)) (i+1)):=fun g1 g2=>by
   refine hJ (_,i+1) ⟨hlt,by simp only [List.length_set]; exact k2,fun m hm=>?_,fun j y hj hy=>?_⟩ (by simp only; omega)
   ·simp only
    rw [usedN_succ hi,List.getD_eq_getElem?_getD,List.getElem?_set]
    by_cases e:x.1.toNat=m
    ·rw [if_pos e,if_pos (by omega),if_pos (by omega),hu1,e]
     simp
    ·rw [if_neg e,if_neg (by omega),← List.getD_eq_getElem?_getD,k3 m hm]
     simp
   ·by_cases e:j=i
    ·subst e
     rw [hi] at hy
     cases hy
     refine ⟨hlie,g1,fun p' hp' => ?_⟩
     rw [hp] at hp'
     cases hp'
     rw [hus]
     omega
    ·exact k4 j y (by omega) hy
  have bad:us.getD x.1.toNat 0+1 > p.2.2.1→R (bv false):=fun g=>h0 fun q=>by
   have:=(q.1 i x hi).2.2 p hp
   rw [hus] at this
   omega
  refine ifB_mk (fun hb=>?_) (fun hb=>?_)
  ·have hi0:0<i:=by have:=of_decide_eq_true hb; omega
   obtain ⟨y,hy⟩:=getI (l:=cs) (k:=i - 1) (by omega)
   have hly:=(k4 (i - 1) y (by omega) hy).1
   refine need_mk ⟨hsc5,ldel1 hi (onNat_mk (m:=i - 1) ?_ (need_mk ⟨hsc5,ldel1 hy ?_⟩))⟩
   ·rw [wrapI (by omega) (by omega)]; omega
   refine index82 (t:=x.2.1) hs hlie.1.2 (onIntK_iv (index82 (t:=y.2.1) hs hly.1.2 (onIntK_iv (ifB_mk (fun e=>h0 fun q=>?_) (fun e=>?_)))))
   ·have:=(q.1 i x hi).2.1 y hi0 hy
    have e:=of_decide_eq_true e
    omega
   ·have e:=of_decide_eq_false e
    exact tail54 hsc5 hi hx1 (by omega) hp (by omega) (by omega) bad (fin fun y' _ hy' => by rw [hy] at hy'; cases hy'; omega)
  ·have hi0 : ¬ 0<i:=by have:=of_decide_eq_false hb; omega
   exact tail54 hsc5 hi hx1 (by omega) hp (by omega) (by omega) bad (fin fun y' h' _=>absurd h' hi0)
 ·have hge:i=cs.length:=by have:=of_decide_eq_false hb; omega
  have hall : ∀ j x,cs[j]? = some x→compAt w d h c l cs j x:=fun j x hj=>k4 j x (by have:=(List.getElem?_eq_some_iff.1 hj).1; omega) hj
  have hld : ∀ x∈cs,LdOK l x:=fun x hx=>by
   obtain ⟨j,hj⟩:=List.getElem?_of_mem hx
   exact lies_ok hs hpt (hall j x hj).1
  refine La.of (σ:=Nat) (fun i=>sh54b w d h u c l sc cs i) (fun i=>i≤c.length ∧ ∀ j,j<i→c.getD j 0≠0→0≤byI l cs (cel w d j).1 (cel w d j).2.1 (cel w d j).2.2) (fun i=>c.length - i) 0 (by kernel_rfl) ⟨Nat.zero_le _,fun j hj=>by omega⟩ ?_
  clear hge hb k1 k2 k3 k4 hJ J us i
  rintro i ⟨m1,m2⟩ J2 hJ2
  have J:St→Prop:=J2
  refine see (p:=ifB (decide ((↑i:Int)<(↑(nb c).length:Int))) (need (u=1) (onSome (nb c)[i]? fun row=>onSome row[0]? fun v=>onIntK IntKind.u8 v fun n=>ifB (n != (0:Int)) (need (w≠(0:Int)) (need (w≠(0:Int)) (need (d≠(0:Int)) (need (w≠(0:Int)) (need (d≠(0:Int)) (K0G Tryd.prog glX 83 [V.lst 4 (ptl l),V.lst sc (ldl cs),iv ((↑i:Int).tmod w),iv ((IntKind.i64.wrap ((↑i:Int).tdiv w)).tmod d),iv (IntKind.i64.wrap ((IntKind.i64.wrap ((↑i:Int).tdiv w)).tdiv d))] fun v=>onIntK IntKind.i64 v fun n=>ifB (decide (n<(0:Int))) (R (bv false)) (J2 (St.mk (mkT [(1,V.lst 4 (ptl l)),(2,V.lst sc (ldl cs)),(3,V.ptr (Id.p 0) 0 0),(9,iv (IntKind.i64.wrap ((↑i:Int)+(1:Int))))]) (Hp.mk [(0,O.rows 4 false [[iv w,iv d,iv h,V.lst u (nb c)]])] 1 []))))))))) (J2 (St.mk (mkT [(1,V.lst 4 (ptl l)),(2,V.lst sc (ldl cs)),(3,V.ptr (Id.p 0) 0 0),(9,iv (IntKind.i64.wrap ((↑i:Int)+(1:Int))))]) (Hp.mk [(0,O.rows 4 false [[iv w,iv d,iv h,V.lst u (nb c)]])] 1 []))))) (R (bv true))) (by kernel_rfl) ?_
  refine ifB_mk (fun hb=>?_) (fun hb=>?_) <;> rw [nb_length] at hb
  ·have hlt:i<c.length:=by have:=of_decide_eq_true hb; omega
   have hci:c[i]? = some (c.getD i 0):=by simp [List.getD,hlt]
   have hi256:i<256:=by omega
   refine need_mk ⟨hu.resolve_right (by rintro rfl; simp at hlt),nbel hci ?_⟩
   rw [wrapI (n:=(i:Int)+1) (by omega) (by omega)]
   have q1:0≤(i:Int).tdiv w∧(i:Int).tdiv w≤i:=by
    rw [Int.tdiv_eq_ediv_of_nonneg (by omega)]
    exact ⟨Int.ediv_nonneg (by omega) (by omega),Int.ediv_le_self _ (by omega)⟩
   have q2:0≤((i:Int).tdiv w).tdiv d∧((i:Int).tdiv w).tdiv d≤(i:Int).tdiv w:=by
    rw [Int.tdiv_eq_ediv_of_nonneg (a:=(i:Int).tdiv w) (by omega)]
    exact ⟨Int.ediv_nonneg (by omega) (by omega),Int.ediv_le_self _ (by omega)⟩
   refine ifB_mk (fun hn=>?_) (fun hn=>?_)
   ·have hn:c.getD i 0≠0:=fun e=>by rw [e] at hn; simp at hn
    refine need_mk ⟨by omega,need_mk ⟨by omega,need_mk ⟨by omega,need_mk ⟨by omega,need_mk ⟨by omega,?_⟩⟩⟩⟩⟩
    rw [wrapI (n:=(i:Int).tdiv w) (by omega) (by omega),wrapI (n:=((i:Int).tdiv w).tdiv d) (by omega) (by omega)]
    refine by83 hsc (by omega) hld (onIntK_iv (ifB_mk (fun e=>h0 fun q=>?_) (fun e=>?_)))
    ·have:=q.2 i hlt hn
     have e:=of_decide_eq_true e
     simp only [cel] at this
     omega
    ·have e:=of_decide_eq_false e
     refine hJ2 (i+1) ⟨hlt,fun j hj hc=>?_⟩ (by omega)
     by_cases g:j=i
     ·subst g
      simp only [cel]
      omega
     ·exact m2 j (by omega) hc
   ·have hn:c.getD i 0=0:=by have:=(bne_eq_false_iff_eq (a:=((c.getD i 0:Nat):Int)) (b:=0)).1 hn; omega
    refine hJ2 (i+1) ⟨hlt,fun j hj hc=>?_⟩ (by omega)
    by_cases g:j=i
    ·subst g; exact absurd hn hc
    ·exact m2 j (by omega) hc
  ·have hge:=of_decide_eq_false hb
   exact h1 ⟨hall,fun j hj hc=>m2 j (by omega) hc⟩
set_option maxRecDepth 100000
set_option maxRecDepth 10000
theorem check20 {w d h:Int} {u:Nat} {c:List Nat} {l:List Pt} {sc:Nat} {cs:List Ld} {R:V→Prop} (hu:u=1∨c=[]) (hsc:sc=5∨cs=[]) (hcs:cs.length≤900)
  (h70 : ¬ ShOK w d h c→R (iv 70)) (h71:ShOK w d h c → ¬ PtOK l→R (iv 71)) (h8:ShOK w d h c→PtOK l→laid w d c l cs=none→R (iv 8)) (h0:ShOK w d h c→PtOK l → ∀ ps,laid w d c l cs=some ps→R (iv 0)) :
  K0G Tryd.prog glX 20 [.agg [iv w,iv d,iv h,.lst u (nb c)],.lst 4 (ptl l),.lst sc (ldl cs)] R:=by
 refine K0_of_WY0 hmX hcMo 3000 Tryd.func20 (see (p:=K0G Tryd.prog glX 43 [V.agg [iv w,iv d,iv h,V.lst u (nb c)],V.lst 4 (ptl l),V.lst sc (ldl cs)] fun v=>onTup v fun vs=>onCons vs fun u r=>onAgg u fun cs=>onCons cs fun u r_1=>onIntK IntKind.i64 u fun n=>onCons r_1 fun u r_2=>onIntK IntKind.i64 u fun n=>onCons r_2 fun u r_3=>onIntK IntKind.i64 u fun n=>onCons r_3 fun u r_4=>onLst u fun s es=>onCons r_4 fun u r_5=>onLst u fun s es=>onCons r_5 fun u r_6=>onLst u fun s es=>onCons r_6 fun u r_7=>onFmp u (onCons r_7 fun u r_8=>onFmp u (onCons r_8 fun u r_9=>onLst u fun s es=>onCons r_9 fun u r_10=>onLst u fun s es=>onNil r_10 (onCons r fun u r=>onLst u fun s es=>onCons r fun u r=>onIntK IntKind.i64 u fun n=>onNil r (R (iv n)))) fun me=>onCons r_8 fun u r_9=>onLst u fun s es=>onCons r_9 fun u r_10=>onLst u fun s es=>onNil r_10 (onCons r fun u r=>onLst u fun s es=>onCons r fun u r=>onIntK IntKind.i64 u fun n=>onNil r (R (iv n)))) fun me=>onCons r_7 fun u r_8=>onFmp u (onCons r_8 fun u r_9=>onLst u fun s es=>onCons r_9 fun u r_10=>onLst u fun s es=>onNil r_10 (onCons r fun u r=>onLst u fun s es=>onCons r fun u r=>onIntK IntKind.i64 u fun n=>onNil r (R (iv n)))) fun me=>onCons r_8 fun u r_9=>onLst u fun s es=>onCons r_9 fun u r_10=>onLst u fun s es=>onNil r_10 (onCons r fun u r=>onLst u fun s es=>onCons r fun u r=>onIntK IntKind.i64 u fun n=>onNil r (R (iv n)))) (by kernel_rfl) ?_)
 exact composed43 hu hsc (by omega) (fun q=>h70 q) (fun q q' => h71 q q') (fun q q' q'' => h8 q q' q'') (fun q q' ps hps=>h0 q q' ps hps)
theorem check21 {w d h:Int} {u:Nat} {c:List Nat} {l:List Pt} {sc:Nat} {cs:List Ld} {R:V→Prop} (hu:u=1∨c=[]) (hsc:sc=5∨cs=[]) (hcs:cs.length≤900)
  (h70 : ¬ ShOK w d h c→R (iv 70)) (h71:ShOK w d h c → ¬ PtOK l→R (iv 71)) (h8:ShOK w d h c→PtOK l → ¬ compP w d h c l cs→R (iv 8)) (h0:ShOK w d h c→PtOK l→compP w d h c l cs→R (iv 0)) :
  K0G Tryd.prog glX 21 [.agg [iv w,iv d,iv h,.lst u (nb c)],.lst 4 (ptl l),.lst sc (ldl cs)] R:=by
 refine K0_of_WY0 hmX hcMo 3000 Tryd.func21 (see (p:=K0G Tryd.prog glX 53 [V.agg [iv w,iv d,iv h,V.lst u (nb c)],V.lst 4 (ptl l)] fun v=>onIntK IntKind.i64 v fun n=>ifB (n != (0:Int)) (R (iv n)) (K0G Tryd.prog glX 54 [V.agg [iv w,iv d,iv h,V.lst u (nb c)],V.lst 4 (ptl l),V.lst sc (ldl cs)] fun v=>onBool v fun b=>ifB (!b) (R (iv (8:Int))) (R (iv (0:Int))))) (by kernel_rfl) ?_)
 exact asked37 hu (fun hs hpt=>onIntK_iv (ifB_f rfl (comp54 hs hu hpt hsc hcs (fun q=>onBool_bv (ifB_f rfl (h0 hs hpt q))) (fun q=>onBool_bv (ifB_t rfl (h8 hs hpt q)))))) (fun q=>onIntK_iv (ifB_t rfl (h70 q))) (fun q q' => onIntK_iv (ifB_t rfl (h71 q q')))
def ldP (y:Pc):Ld:=((y.1:Int),y.2.1,y.2.2.1)
theorem pcel {pl:List Pc} {k:Nat} {y:Pc} {K:Int→Int→Int→Int→Bool→Int→Int→Prop} (h:pl[k]? = some y) (hk:K y.1 y.2.1.1 y.2.1.2.1 y.2.1.2.2 y.2.2.1 y.2.2.2.1 y.2.2.2.2):onSome (pl.map pcR)[k]? fun row=>onCons (List.drop 0 row) fun u_7 r=>onIntK IntKind.i64 u_7 fun n=>onCons r fun u_7 r=>onIntK IntKind.i64 u_7 fun n_4=>onCons r fun u_8 r=>onIntK IntKind.i64 u_8 fun n_5=>onCons r fun u_9 r=>onIntK IntKind.i64 u_9 fun n_6=>onCons r fun u_10 r=>onBool u_10 fun b=>onCons r fun u_11 r=>onIntK IntKind.u16 u_11 fun n_7=>onCons r fun u_12 r=>onIntK IntKind.u16 u_12 fun n_8=>K n n_4 n_5 n_6 b n_7 n_8 :=
 onSome_mk (by simp [h]:(pl.map pcR)[k]? = some (pcR y)) hk
theorem tkF_cons (pcs:List Pc) (s:TkS) (x:Ld) (cs:List Ld):tkF pcs s (x::cs)=(tkStep pcs s x).bind fun s1=>tkF pcs s1 cs:=by
 unfold tkF
 rw [List.foldlM_cons]
 rfl
theorem tkF_map {pcs:List Pc} : ∀ {cs:List Ld} {s s' : TkS},tkF pcs s cs=some s' → s'.1.map ldP=s.1.map ldP++cs ∧ ∀ y∈s'.1,y∈s.1∨y∈pcs
 | [],s,s', h=>by
  simp only [tkF,List.foldlM_nil] at h
  cases h
  exact ⟨by simp,fun y hy => .inl hy⟩
 | x::cs,s,s', h=>by
  rw [tkF_cons,Option.bind_eq_some_iff] at h
  obtain ⟨s1,h1,h2⟩:=h
  obtain ⟨g1,g2⟩:=tkF_map h2
  unfold tkStep at h1
  split at h1
  ·cases h1
  ·rename_i y hy
   split at h1
   ·cases h1
    have hsame:=List.find?_some hy
    have hin:=List.mem_of_find?_eq_some hy
    have hld:ldP y=x:=by
     obtain ⟨e1,e2,e3⟩:=of_decide_eq_true hsame
     obtain ⟨a,b,e⟩:=x
     simp only at e1 e2 e3
     unfold ldP
     rw [e1,e2,e3]
    refine ⟨by rw [g1]; simp [hld],fun z hz=>?_⟩
    rcases g2 z hz with q | q
    ·rcases List.mem_append.1 q with q | q
     ·exact .inl q
     ·rw [List.mem_singleton] at q
      subst q
      exact .inr hin
    ·exact .inr q
   ·cases h1
theorem laid_map {w d:Int} {c:List Nat} {l:List Pt} {cs:List Ld} {ps:List Pc} (h:laid w d c l cs=some ps):ps.map ldP=cs ∧ ∀ y∈ps,y∈allPc (bdL w d c) (colN c) l (bdL w d c).length:=by
 unfold laid tkOK at h
 split at h
 ·rename_i s hs
  split at h
  ·cases h
   obtain ⟨h1,h2⟩:=tkF_map hs
   exact ⟨by simpa using h1,fun y hy=>(h2 y hy).resolve_left (by simp)⟩
  ·cases h
 ·cases h
set_option maxRecDepth 100000
def kpH:FuncId→Nat→Option (List Tmp):=slotsOf [(44,0,[1,2,5,6]),(44,2,[1,2,5,6,14,15,16])]
noncomputable def cfH:Cfg:=cfgD Tryd.prog glX (fun _=>0) dyB (inN [74]) kpH
noncomputable def sh44a (w d h:Int) (u:Nat) (c:List Nat) (l:List Pt) (L:List C3) (nE pE:List (V×V)) (bg:List (List V)) (ws:Nat) (wr ps:List (List V)) (s:Nat) (g:Bool):St:=⟨mkT [(1,V.lst 7 ps),(2,V.ptr (Id.p 0) 0 0),(5,u16v s),(6,bv g)],⟨[(0,O.rows 10 false [[iv w,iv d,iv h,V.lst u (nb c),V.lst 4 (ptl l),V.lst 3 (fullR L),V.fmp nE,V.fmp pE,V.lst 1 bg,V.lst ws wr]])],1,[]⟩⟩
noncomputable def sh44b (w d h:Int) (u:Nat) (c:List Nat) (l:List Pt) (L:List C3) (nE pE:List (V×V)) (bg:List (List V)) (ws:Nat) (wr ps:List (List V)) (s:Nat) (g:Bool) (k:Nat):St:=⟨mkT [(1,V.lst 7 ps),(2,V.ptr (Id.p 0) 0 0),(5,u16v s),(6,bv g),(14,V.lst 7 ps),(15,iv (ps.length:Int)),(16,iv (k:Int))],⟨[(0,O.rows 10 false [[iv w,iv d,iv h,V.lst u (nb c),V.lst 4 (ptl l),V.lst 3 (fullR L),V.fmp nE,V.fmp pE,V.lst 1 bg,V.lst ws wr]])],1,[]⟩⟩
set_option maxRecDepth 10000
theorem hcH:cfH.ok Tryd.prog:=cfgD_ok
theorem and16 {a b:Nat} (ha:a<65536) (hb:b<65536):IntKind.u16.wrap ((BitVec.ofInt 16 (a:Int) &&& BitVec.ofInt 16 (b:Int)).toNat:Int)=((a &&& b:Nat):Int):=by
 rw [BitVec.toNat_and,bv16 ha,bv16 hb,wrap_u16]
 have:a &&& b≤a:=Nat.and_le_left
 omega
theorem or16 {a b:Nat} (ha:a<65536) (hb:b<65536):IntKind.u16.wrap ((BitVec.ofInt 16 (a:Int) ||| BitVec.ofInt 16 (b:Int)).toNat:Int)=((a ||| b:Nat):Int)∧a ||| b<65536:=by
 have h:a ||| b<65536:=Nat.or_lt_two_pow (n:=16) ha hb
 refine ⟨?_,h⟩
 rw [BitVec.toNat_or,bv16 ha,bv16 hb,wrap_u16]
 omega
inductive Rch (ps:List Pc):Nat→Prop
 | base {y:Pc} (h:ps[0]? = some y):Rch ps y.2.2.2.1
 | step {s:Nat} {y:Pc} (h:Rch ps s) (hy:y∈ps) (ht:y.2.2.2.2 &&& s≠0):Rch ps (s ||| y.2.2.2.1)
theorem hangs44 {w d h:Int} {u:Nat} {c:List Nat} {l:List Pt} {L:List C3} {nE pE:List (V×V)} {bg:List (List V)} {ws:Nat} {wr:List (List V)} {pl:List Pc} {R:V→Prop} (hL:L.length≤16) (hpl:pl.length≤1000) (hne:pl≠[]) (hm : ∀ y∈pl,y.2.2.2.1<65536∧y.2.2.2.2<65536)
  (hR : ∀ S,Rch pl S→(∀ y∈pl,y.2.2.2.2 &&& S≠0→difN y.2.2.2.1 S=0)→R (bv ((S:Int)==((2 ^ L.length - 1:Nat):Int)))):K0G Tryd.prog glX 44 [bdX w d h u c l L nE pE bg ws wr,.lst 7 (pl.map pcR)] R:=by
 obtain ⟨ps,hps⟩ : ∃ ps,ps=pl.map pcR:=⟨_,rfl⟩
 have hpsl:ps.length=pl.length:=by rw [hps,List.length_map]
 rw [← hps]
 refine K0_of_WY0 hmX hcH 3000 Tryd.func44 (see (p:=onSome ps[0]? fun row=>onSome row[5]? fun v=>onIntK IntKind.u16 v fun n=>La 0 [(1:Tmp),(2:Tmp),(5:Tmp),(6:Tmp)] (WY Tryd.prog cfH 2994 (Env.mk (Bs.mk 0 []) 0 none 41 44 0) (cdAt [1,1,0,1,0,0] (bodyOf Tryd.f44))) (Qblk 0 (Qthen (WY Tryd.prog cfH 2997 (Env.mk (Bs.mk 0 []) 0 none 41 44 0) (cdAt [1,1,1] (bodyOf Tryd.f44)) (QendX Tryd.prog Tryd.f44 fun v h=>R (frzW h v))) (QendX Tryd.prog Tryd.f44 fun v h=>R (frzW h v)))) (St.mk (mkT [(1,V.lst 7 ps),(2,V.ptr (Id.p 0) 0 0),(5,V.raw (Value.int IntKind.u16 n)),(6,bv true)]) (Hp.mk [(0,O.rows 10 false [[iv w,iv d,iv h,V.lst u (nb c),V.lst 4 (ptl l),V.lst 3 (fullR L),V.fmp nE,V.fmp pE,V.lst 1 bg,V.lst ws wr]])] 1 []))) (by kernel_rfl) ?_)
 obtain ⟨y0,h0⟩:=getI (l:=pl) (k:=0) (by have:=List.length_pos_iff.2 hne; omega)
 have hy0:=hm y0 (List.mem_of_getElem? h0)
 refine onSome_mk (show ps[0]? = some (pcR y0) by rw [hps]; simp [h0]) (onSome_mk rfl (onIntK_u16 ?_))
 refine La.of (σ:=Nat×Bool) (fun x=>sh44a w d h u c l L nE pE bg ws wr ps x.1 x.2) (fun x=>Rch pl x.1∧x.1<65536∧(x.2=false → ∀ y∈pl,y.2.2.2.2 &&& x.1≠0→difN y.2.2.2.1 x.1=0)) (fun x=>(65536 - x.1) * 2+(if x.2 then 1 else 0)) (y0.2.2.2.1,true) (by kernel_rfl) ⟨.base h0,hy0.1,by simp⟩ ?_
 rintro ⟨s,g⟩ ⟨k1,k2,k3⟩ J hJ
 simp only at k1 k2 k3
 refine see (p:=ifB g (La 0 [(1:Tmp),(2:Tmp),(5:Tmp),(6:Tmp),(14:Tmp),(15:Tmp),(16:Tmp)] (WY Tryd.prog cfH 2988 (Env.mk (Bs.mk 0 []) 0 none 41 44 2) (cdAt [1,1,0,1,0,0,1,0,1,1,0,0] (bodyOf Tryd.f44))) (Qblk 2 (Qblk 1 (Qla 0 [(1:Tmp),(2:Tmp),(5:Tmp),(6:Tmp)] J (Qblk 0 (Qthen (WY Tryd.prog cfH 2997 (Env.mk (Bs.mk 0 []) 0 none 41 44 0) (cdAt [1,1,1] (bodyOf Tryd.f44)) (QendX Tryd.prog Tryd.f44 fun v h=>R (frzW h v))) (QendX Tryd.prog Tryd.f44 fun v h=>R (frzW h v))))))) (St.mk (mkT [(1,V.lst 7 ps),(2,V.ptr (Id.p 0) 0 0),(5,V.raw (Value.int IntKind.u16 (↑s:Int))),(6,bv false),(14,V.lst 7 ps),(15,iv (↑ps.length:Int)),(16,iv (0:Int))]) (Hp.mk [(0,O.rows 10 false [[iv w,iv d,iv h,V.lst u (nb c),V.lst 4 (ptl l),V.lst 3 (fullR L),V.fmp nE,V.fmp pE,V.lst 1 bg,V.lst ws wr]])] 1 []))) (K0G Tryd.prog glX 100 [iv (↑(fullR L).length:Int)] fun v=>onIntK IntKind.u16 v fun n=>R (bv ((↑s:Int)==n)))) (by kernel_rfl) ?_
 refine ifB_mk (fun hg=>?_) (fun hg=>?_)
 ·subst hg
  obtain ⟨s0,hs0⟩ : ∃ s0,s0=s:=⟨_,rfl⟩
  refine La.of (σ:=Nat×Bool×Nat) (fun x=>sh44b w d h u c l L nE pE bg ws wr ps x.1 x.2.1 x.2.2) (fun x=>x.2.2≤pl.length∧Rch pl x.1∧x.1<65536∧s0≤x.1∧(x.2.1=true→s0<x.1)∧(x.2.1=false→x.1=s0 ∧ ∀ (j:Nat) (y:Pc),j<x.2.2→pl[j]? = some y→y.2.2.2.2 &&& s0≠0→difN y.2.2.2.1 s0=0)) (fun x=>pl.length - x.2.2) (s,false,0) (by kernel_rfl) ⟨Nat.zero_le _,k1,k2,by simp only; omega,by simp,fun _=>⟨hs0.symm,fun j y hj=>absurd hj (Nat.not_lt_zero _)⟩⟩ ?_
  clear k3
  rintro ⟨s,g,k⟩ ⟨m1,m2,m3,m4,m5,m6⟩ J2 hJ2
  simp only at m1 m2 m3 m4 m5 m6
  refine see (p:=ifB (decide ((↑k:Int)<(↑ps.length:Int))) (onSome ps[k]? fun row=>onCons (List.drop 0 row) fun u_1 r=>onIntK IntKind.i64 u_1 fun n=>onCons r fun u_2 r=>onIntK IntKind.i64 u_2 fun n=>onCons r fun u_3 r=>onIntK IntKind.i64 u_3 fun n=>onCons r fun u_4 r=>onIntK IntKind.i64 u_4 fun n=>onCons r fun u_5 r=>onBool u_5 fun b=>onCons r fun u_6 r=>onIntK IntKind.u16 u_6 fun n=>onCons r fun u_7 r=>onIntK IntKind.u16 u_7 fun n_1=>ifB (IntKind.u16.wrap (↑(BitVec.ofInt 16 n_1 &&& BitVec.ofInt 16 (↑s:Int)).toNat:Int) != (0:Int)) (K0G Tryd.prog glX 73 [V.raw (Value.int IntKind.u16 (↑s:Int)),V.raw (Value.int IntKind.u16 n)] fun v=>onBool v fun b=>ifB (!b) (J2 (St.mk (mkT [(1,V.lst 7 ps),(2,V.ptr (Id.p 0) 0 0),(5,V.raw (Value.int IntKind.u16 (IntKind.u16.wrap (↑(BitVec.ofInt 16 (↑s:Int) ||| BitVec.ofInt 16 n).toNat:Int)))),(6,bv true),(14,V.lst 7 ps),(15,iv (↑ps.length:Int)),(16,iv (IntKind.i64.wrap ((↑k:Int)+(1:Int))))]) (Hp.mk [(0,O.rows 10 false [[iv w,iv d,iv h,V.lst u (nb c),V.lst 4 (ptl l),V.lst 3 (fullR L),V.fmp nE,V.fmp pE,V.lst 1 bg,V.lst ws wr]])] 1 []))) (J2 (St.mk (mkT [(1,V.lst 7 ps),(2,V.ptr (Id.p 0) 0 0),(5,V.raw (Value.int IntKind.u16 (↑s:Int))),(6,bv g),(14,V.lst 7 ps),(15,iv (↑ps.length:Int)),(16,iv (IntKind.i64.wrap ((↑k:Int)+(1:Int))))]) (Hp.mk [(0,O.rows 10 false [[iv w,iv d,iv h,V.lst u (nb c),V.lst 4 (ptl l),V.lst 3 (fullR L),V.fmp nE,V.fmp pE,V.lst 1 bg,V.lst ws wr]])] 1 [])))) (J2 (St.mk (mkT [(1,V.lst 7 ps),(2,V.ptr (Id.p 0) 0 0),(5,V.raw (Value.int IntKind.u16 (↑s:Int))),(6,bv g),(14,V.lst 7 ps),(15,iv (↑ps.length:Int)),(16,iv (IntKind.i64.wrap ((↑k:Int)+(1:Int))))]) (Hp.mk [(0,O.rows 10 false [[iv w,iv d,iv h,V.lst u (nb c),V.lst 4 (ptl l),V.lst 3 (fullR L),V.fmp nE,V.fmp pE,V.lst 1 bg,V.lst ws wr]])] 1 [])))) (J (St.mk (mkT [(1,V.lst 7 ps),(2,V.ptr (Id.p 0) 0 0),(5,V.raw (Value.int IntKind.u16 (↑s:Int))),(6,bv g)]) (Hp.mk [(0,O.rows 10 false [[iv w,iv d,iv h,V.lst u (nb c),V.lst 4 (ptl l),V.lst 3 (fullR L),V.fmp nE,V.fmp pE,V.lst 1 bg,V.lst ws wr]])] 1 [])))) (by kernel_rfl) ?_
  rw [hpsl]
  refine ifB_mk (fun hb=>?_) (fun hb=>?_)
  ·have hlt:k<pl.length:=by have:=of_decide_eq_true hb; omega
   obtain ⟨y,hy⟩:=getI hlt
   have hym:=List.mem_of_getElem? hy
   obtain ⟨b1,b2⟩:=hm y hym
   rw [wrapI (n:=(k:Int)+1) (by omega) (by omega)]
   have keep:(g=false→y.2.2.2.2 &&& s≠0→difN y.2.2.2.1 s=0)→J2 (sh44b w d h u c l L nE pE bg ws wr ps s g (k+1)):=fun q=>hJ2 (s,g,k+1) ⟨hlt,m2,m3,m4,m5,fun hg=>⟨(m6 hg).1,fun j z hj hz=>by
    have hj:j<k+1:=hj
    by_cases e:j=k
    ·subst e
     rw [hy] at hz
     cases hz
     have e:=(m6 hg).1
     rw [← e]
     exact q hg
    ·exact (m6 hg).2 j z (by omega) hz⟩⟩ (by simp only; omega)
   unfold sh44b at keep
   rw [hpsl] at keep
   subst hps
   refine pcel hy ?_
   rw [and16 b2 m3]
   refine ifB_mk (fun e1=>?_) (fun e1=>?_)
   ·have ht:y.2.2.2.2 &&& s≠0:=fun q=>by rw [q] at e1; simp at e1
    refine has73 (onBool_bv (ifB_mk (fun e2=>?_) (fun e2=>?_)))
    ·have hd:difN y.2.2.2.1 s≠0:=by simpa using e2
     obtain ⟨o1,o2⟩:=or16 m3 b1
     have hgt:s<s ||| y.2.2.2.1:=by
      have a1:s≤s ||| y.2.2.2.1:=Nat.left_le_or
      refine Nat.lt_of_le_of_ne a1 fun q=>hd (Nat.eq_of_testBit_eq fun m=>?_)
      rw [difN_bit b1,Nat.zero_testBit]
      have e:s.testBit m=(s.testBit m || y.2.2.2.1.testBit m):=by rw [← Nat.testBit_or,← q]
      generalize s.testBit m=p1 at e ⊢
      generalize y.2.2.2.1.testBit m=p2 at e ⊢
      revert p1 p2
      decide
     have:=hJ2 (s ||| y.2.2.2.1,true,k+1) ⟨hlt,.step m2 hym ht,o2,by simp only; omega,fun _=>by simp only; omega,by simp⟩ (by simp only; omega)
     simp only at this
     unfold sh44b at this
     rw [hpsl] at this
     rw [o1]
     exact this
    ·exact keep fun _ _=>by simpa using e2
   ·exact keep fun _ q=>absurd (by simpa using e1) q
  ·have hge:k=pl.length:=by have:=of_decide_eq_false hb; omega
   refine hJ (s,g) ⟨m2,m3,fun hg y hy ht=>?_⟩ ?_
   ·obtain ⟨j,hj⟩:=List.getElem?_of_mem hy
    obtain ⟨e,q⟩:=m6 hg
    simp only at ht ⊢
    rw [e] at ht ⊢
    exact q j y (by have:=(List.getElem?_eq_some_iff.1 hj).1; omega) hj ht
   ·simp only
    cases g with
    | true=>have:=m5 rfl; simp; omega
    | false=>have:=(m6 rfl).1; simp; omega
 ·have hfl:(fullR L).length=L.length:=by simp [fullR]
  rw [hfl]
  exact firsts100 hL (onIntK_u16 (hR s k1 (k3 hg)))
set_option maxRecDepth 100000
noncomputable def sh75a (w d h:Int) (u:Nat) (c:List Nat) (l:List Pt) (x y:Ld) (j:Int):St:=⟨mkT [(1,V.lst 4 (ptl l)),(4,V.ptr (Id.p 0) 0 0),(6,V.ptr (Id.p 1) 0 0),(7,V.ptr (Id.p 2) 0 0),(9,iv j)],⟨[(0,O.rows 4 false [[iv w,iv d,iv h,V.lst u (nb c)]]),(1,O.rows 5 false [ldR x]),(2,O.rows 5 false [ldR y])],3,[]⟩⟩
noncomputable def sh75b (w d h:Int) (u:Nat) (c:List Nat) (l:List Pt) (x y:Ld) (j i:Int):St:=⟨mkT [(1,V.lst 4 (ptl l)),(4,V.ptr (Id.p 0) 0 0),(6,V.ptr (Id.p 1) 0 0),(7,V.ptr (Id.p 2) 0 0),(9,iv j),(10,iv i)],⟨[(0,O.rows 4 false [[iv w,iv d,iv h,V.lst u (nb c)]]),(1,O.rows 5 false [ldR x]),(2,O.rows 5 false [ldR y])],3,[]⟩⟩
noncomputable def sh75c (w d h:Int) (u:Nat) (c:List Nat) (l:List Pt) (x y:Ld) (j i k:Int):St:=⟨mkT [(1,V.lst 4 (ptl l)),(4,V.ptr (Id.p 0) 0 0),(6,V.ptr (Id.p 1) 0 0),(7,V.ptr (Id.p 2) 0 0),(9,iv j),(10,iv i),(11,iv k)],⟨[(0,O.rows 4 false [[iv w,iv d,iv h,V.lst u (nb c)]]),(1,O.rows 5 false [ldR x]),(2,O.rows 5 false [ldR y])],3,[]⟩⟩
set_option maxRecDepth 10000
def touchB (l:List Pt) (x y:Ld) (i j k:Int):Bool:=hasL l x i j k&&(hasL l y i j (k+1) || hasL l y i j (k - 1))
def touchP (w d h:Int) (l:List Pt) (x y:Ld):Prop := ∃ i j k,(0≤i∧i<w)∧(0≤j∧j<d)∧(0≤k∧k<h)∧touchB l x y i j k=true
theorem touch75 {w d h:Int} {u:Nat} {c:List Nat} {l:List Pt} {x y:Ld} {R:V→Prop} (hs:ShOK w d h c) (hx:LdOK l x) (hy:LdOK l y) (h1:touchP w d h l x y→R (bv true)) (h0 : ¬ touchP w d h l x y→R (bv false)):K0G Tryd.prog glX 75 [.agg [iv w,iv d,iv h,.lst u (nb c)],.lst 4 (ptl l),.agg (ldR x),.agg (ldR y)] R:=by
 have hw1:=hs.1; have hd1:=hs.2.1; have hh1:=hs.2.2.1
 refine K0_of_WY0 hmX hcMo 3000 Tryd.func75 (see (p:=La 0 [(1:Tmp),(4:Tmp),(6:Tmp),(7:Tmp),(9:Tmp)] (WY Tryd.prog cfM 2995 (Env.mk (Bs.mk 0 []) 0 none 54 75 0) (cdAt [1,0,1,0,0] (bodyOf Tryd.f75))) (Qblk 0 (Qthen (WY Tryd.prog cfM 2998 (Env.mk (Bs.mk 0 []) 0 none 54 75 0) (cdAt [1,1] (bodyOf Tryd.f75)) (QendX Tryd.prog Tryd.f75 fun v h=>R (frzW h v))) (QendX Tryd.prog Tryd.f75 fun v h=>R (frzW h v)))) (St.mk (mkT [(1,V.lst 4 (ptl l)),(4,V.ptr (Id.p 0) 0 0),(6,V.ptr (Id.p 1) 0 0),(7,V.ptr (Id.p 2) 0 0),(9,iv (0:Int))]) (Hp.mk [(0,O.rows 4 false [[iv w,iv d,iv h,V.lst u (nb c)]]),(1,O.rows 5 false [[iv x.1,iv x.2.1.1,iv x.2.1.2.1,iv x.2.1.2.2,bv x.2.2]]),(2,O.rows 5 false [[iv y.1,iv y.2.1.1,iv y.2.1.2.1,iv y.2.1.2.2,bv y.2.2]])] 3 []))) (by kernel_rfl) ?_)
 refine La.of (σ:=Int) (fun j=>sh75a w d h u c l x y j) (fun j=>0≤j∧j≤d ∧ ∀ j', 0≤j' → j' < j → ∀ i,0≤i→i<w → ∀ k,0≤k→k<h→touchB l x y i j' k=false) (fun j=>(d - j).toNat) 0 (by kernel_rfl) ⟨Int.le_refl _,by omega,fun j' _ _=>by omega⟩ ?_
 rintro j ⟨a1,a2,a3⟩ J hJ
 refine see (p:=ifB (decide (j<d)) (La 0 [(1:Tmp),(4:Tmp),(6:Tmp),(7:Tmp),(9:Tmp),(10:Tmp)] (WY Tryd.prog cfM 2989 (Env.mk (Bs.mk 0 []) 0 none 54 75 2) (cdAt [1,0,1,0,0,1,0,0,1,0,0] (bodyOf Tryd.f75))) (Qblk 2 (Qblk 1 (Qthen (WY Tryd.prog cfM 2993 (Env.mk (Bs.mk 0 []) 0 none 54 75 0) (cdAt [1,0,1,0,0,1,1] (bodyOf Tryd.f75)) (Qla 0 [(1:Tmp),(4:Tmp),(6:Tmp),(7:Tmp),(9:Tmp)] J (Qblk 0 (Qthen (WY Tryd.prog cfM 2998 (Env.mk (Bs.mk 0 []) 0 none 54 75 0) (cdAt [1,1] (bodyOf Tryd.f75)) (QendX Tryd.prog Tryd.f75 fun v h=>R (frzW h v))) (QendX Tryd.prog Tryd.f75 fun v h=>R (frzW h v)))))) (Qla 0 [(1:Tmp),(4:Tmp),(6:Tmp),(7:Tmp),(9:Tmp)] J (Qblk 0 (Qthen (WY Tryd.prog cfM 2998 (Env.mk (Bs.mk 0 []) 0 none 54 75 0) (cdAt [1,1] (bodyOf Tryd.f75)) (QendX Tryd.prog Tryd.f75 fun v h=>R (frzW h v))) (QendX Tryd.prog Tryd.f75 fun v h=>R (frzW h v)))))))) (St.mk (mkT [(1,V.lst 4 (ptl l)),(4,V.ptr (Id.p 0) 0 0),(6,V.ptr (Id.p 1) 0 0),(7,V.ptr (Id.p 2) 0 0),(9,iv j),(10,iv (0:Int))]) (Hp.mk [(0,O.rows 4 false [[iv w,iv d,iv h,V.lst u (nb c)]]),(1,O.rows 5 false [[iv x.1,iv x.2.1.1,iv x.2.1.2.1,iv x.2.1.2.2,bv x.2.2]]),(2,O.rows 5 false [[iv y.1,iv y.2.1.1,iv y.2.1.2.1,iv y.2.1.2.2,bv y.2.2]])] 3 []))) (R (bv false))) (by kernel_rfl) ?_
 refine ifB_mk (fun hb=>?_) (fun hb=>?_)
 ·have hjd:=of_decide_eq_true hb
  refine La.of (σ:=Int) (fun i=>sh75b w d h u c l x y j i) (fun i=>0≤i∧i≤w ∧ ∀ i', 0≤i' → i' < i → ∀ k,0≤k→k<h→touchB l x y i' j k=false) (fun i=>(w - i).toNat) 0 (by kernel_rfl) ⟨Int.le_refl _,by omega,fun i' _ _=>by omega⟩ ?_
  rintro i ⟨b1,b2,b3⟩ J2 hJ2
  refine see (p:=ifB (decide (i<w)) (La 0 [(1:Tmp),(4:Tmp),(6:Tmp),(7:Tmp),(9:Tmp),(10:Tmp),(11:Tmp)] (WY Tryd.prog cfM 2983 (Env.mk (Bs.mk 0 []) 0 none 54 75 4) (cdAt [1,0,1,0,0,1,0,0,1,0,0,1,0,0,1,0,0] (bodyOf Tryd.f75))) (Qblk 4 (Qblk 3 (Qthen (WY Tryd.prog cfM 2987 (Env.mk (Bs.mk 0 []) 0 none 54 75 2) (cdAt [1,0,1,0,0,1,0,0,1,0,0,1,1] (bodyOf Tryd.f75)) (Qla 0 [(1:Tmp),(4:Tmp),(6:Tmp),(7:Tmp),(9:Tmp),(10:Tmp)] J2 (Qblk 2 (Qblk 1 (Qthen (WY Tryd.prog cfM 2993 (Env.mk (Bs.mk 0 []) 0 none 54 75 0) (cdAt [1,0,1,0,0,1,1] (bodyOf Tryd.f75)) (Qla 0 [(1:Tmp),(4:Tmp),(6:Tmp),(7:Tmp),(9:Tmp)] J (Qblk 0 (Qthen (WY Tryd.prog cfM 2998 (Env.mk (Bs.mk 0 []) 0 none 54 75 0) (cdAt [1,1] (bodyOf Tryd.f75)) (QendX Tryd.prog Tryd.f75 fun v h=>R (frzW h v))) (QendX Tryd.prog Tryd.f75 fun v h=>R (frzW h v)))))) (Qla 0 [(1:Tmp),(4:Tmp),(6:Tmp),(7:Tmp),(9:Tmp)] J (Qblk 0 (Qthen (WY Tryd.prog cfM 2998 (Env.mk (Bs.mk 0 []) 0 none 54 75 0) (cdAt [1,1] (bodyOf Tryd.f75)) (QendX Tryd.prog Tryd.f75 fun v h=>R (frzW h v))) (QendX Tryd.prog Tryd.f75 fun v h=>R (frzW h v)))))))))) (Qla 0 [(1:Tmp),(4:Tmp),(6:Tmp),(7:Tmp),(9:Tmp),(10:Tmp)] J2 (Qblk 2 (Qblk 1 (Qthen (WY Tryd.prog cfM 2993 (Env.mk (Bs.mk 0 []) 0 none 54 75 0) (cdAt [1,0,1,0,0,1,1] (bodyOf Tryd.f75)) (Qla 0 [(1:Tmp),(4:Tmp),(6:Tmp),(7:Tmp),(9:Tmp)] J (Qblk 0 (Qthen (WY Tryd.prog cfM 2998 (Env.mk (Bs.mk 0 []) 0 none 54 75 0) (cdAt [1,1] (bodyOf Tryd.f75)) (QendX Tryd.prog Tryd.f75 fun v h=>R (frzW h v))) (QendX Tryd.prog Tryd.f75 fun v h=>R (frzW h v)))))) (Qla 0 [(1:Tmp),(4:Tmp),(6:Tmp),(7:Tmp),(9:Tmp)] J (Qblk 0 (Qthen (WY Tryd.prog cfM 2998 (Env.mk (Bs.mk 0 []) 0 none 54 75 0) (cdAt [1,1] (bodyOf Tryd.f75)) (QendX Tryd.prog Tryd.f75 fun v h=>R (frzW h v))) (QendX Tryd.prog Tryd.f75 fun v h=>R (frzW h v)))))))))))) (St.mk (mkT [(1,V.lst 4 (ptl l)),(4,V.ptr (Id.p 0) 0 0),(6,V.ptr (Id.p 1) 0 0),(7,V.ptr (Id.p 2) 0 0),(9,iv j),(10,iv i),(11,iv (0:Int))]) (Hp.mk [(0,O.rows 4 false [[iv w,iv d,iv h,V.lst u (nb c)]]),(1,O.rows 5 false [[iv x.1,iv x.2.1.1,iv x.2.1.2.1,iv x.2.1.2.2,bv x.2.2]]),(2,O.rows 5 false [[iv y.1,iv y.2.1.1,iv y.2.1.2.1,iv y.2.1.2.2,bv y.2.2]])] 3 []))) (J (St.mk (mkT [(1,V.lst 4 (ptl l)),(4,V.ptr (Id.p 0) 0 0),(6,V.ptr (Id.p 1) 0 0),(7,V.ptr (Id.p 2) 0 0),(9,iv (IntKind.i64.wrap (j+(1:Int))))]) (Hp.mk [(0,O.rows 4 false [[iv w,iv d,iv h,V.lst u (nb c)]]),(1,O.rows 5 false [[iv x.1,iv x.2.1.1,iv x.2.1.2.1,iv x.2.1.2.2,bv x.2.2]]),(2,O.rows 5 false [[iv y.1,iv y.2.1.1,iv y.2.1.2.1,iv y.2.1.2.2,bv y.2.2]])] 3 [])))) (by kernel_rfl) ?_
  refine ifB_mk (fun hb=>?_) (fun hb=>?_)
  ·have hiw:=of_decide_eq_true hb
   refine La.of (σ:=Int) (fun k=>sh75c w d h u c l x y j i k) (fun k=>0≤k∧k≤h ∧ ∀ k', 0≤k' → k' < k→touchB l x y i j k' = false) (fun k=>(h - k).toNat) 0 (by kernel_rfl) ⟨Int.le_refl _,by omega,fun k' _ _=>by omega⟩ ?_
   rintro k ⟨c1,c2,c3⟩ J3 hJ3
   refine see (p:=ifB (decide (k<h)) (K0G Tryd.prog glX 101 [V.lst 4 (ptl l),V.agg [iv x.1,iv x.2.1.1,iv x.2.1.2.1,iv x.2.1.2.2,bv x.2.2],iv i,iv j,iv k] fun v=>onBool v fun b=>ifB b (K0G Tryd.prog glX 101 [V.lst 4 (ptl l),V.agg [iv y.1,iv y.2.1.1,iv y.2.1.2.1,iv y.2.1.2.2,bv y.2.2],iv i,iv j,iv (IntKind.i64.wrap (k+(1:Int)))] fun v=>onBool v fun b=>ifB b (R (bv true)) (K0G Tryd.prog glX 101 [V.lst 4 (ptl l),V.agg [iv y.1,iv y.2.1.1,iv y.2.1.2.1,iv y.2.1.2.2,bv y.2.2],iv i,iv j,iv (IntKind.i64.wrap (k - (1:Int)))] fun v=>onBool v fun b=>ifB b (R (bv true)) (J3 (St.mk (mkT [(1,V.lst 4 (ptl l)),(4,V.ptr (Id.p 0) 0 0),(6,V.ptr (Id.p 1) 0 0),(7,V.ptr (Id.p 2) 0 0),(9,iv j),(10,iv i),(11,iv (IntKind.i64.wrap (k+(1:Int))))]) (Hp.mk [(0,O.rows 4 false [[iv w,iv d,iv h,V.lst u (nb c)]]),(1,O.rows 5 false [[iv x.1,iv x.2.1.1,iv x.2.1.2.1,iv x.2.1.2.2,bv x.2.2]]),(2,O.rows 5 false [[iv y.1,iv y.2.1.1,iv y.2.1.2.1,iv y.2.1.2.2,bv y.2.2]])] 3 []))))) (J3 (St.mk (mkT [(1,V.lst 4 (ptl l)),(4,V.ptr (Id.p 0) 0 0),(6,V.ptr (Id.p 1) 0 0),(7,V.ptr (Id.p 2) 0 0),(9,iv j),(10,iv i),(11,iv (IntKind.i64.wrap (k+(1:Int))))]) (Hp.mk [(0,O.rows 4 false [[iv w,iv d,iv h,V.lst u (nb c)]]),(1,O.rows 5 false [[iv x.1,iv x.2.1.1,iv x.2.1.2.1,iv x.2.1.2.2,bv x.2.2]]),(2,O.rows 5 false [[iv y.1,iv y.2.1.1,iv y.2.1.2.1,iv y.2.1.2.2,bv y.2.2]])] 3 [])))) (J2 (St.mk (mkT [(1,V.lst 4 (ptl l)),(4,V.ptr (Id.p 0) 0 0),(6,V.ptr (Id.p 1) 0 0),(7,V.ptr (Id.p 2) 0 0),(9,iv j),(10,iv (IntKind.i64.wrap (i+(1:Int))))]) (Hp.mk [(0,O.rows 4 false [[iv w,iv d,iv h,V.lst u (nb c)]]),(1,O.rows 5 false [[iv x.1,iv x.2.1.1,iv x.2.1.2.1,iv x.2.1.2.2,bv x.2.2]]),(2,O.rows 5 false [[iv y.1,iv y.2.1.1,iv y.2.1.2.1,iv y.2.1.2.2,bv y.2.2]])] 3 [])))) (by kernel_rfl) ?_
   refine ifB_mk (fun hb=>?_) (fun hb=>?_)
   ·have hkh:=of_decide_eq_true hb
    rw [wrapI (n:=k+1) (by omega) (by omega),wrapI (n:=k - 1) (by omega) (by omega)]
    have good:touchB l x y i j k=true→R (bv true):=fun q=>h1 ⟨i,j,k,⟨b1,hiw⟩,⟨a1,hjd⟩,⟨c1,hkh⟩,q⟩
    have next:touchB l x y i j k=false→J3 (sh75c w d h u c l x y j i (k+1)):=fun q=>hJ3 (k+1) ⟨by omega,by omega,fun k' g1 g2=>by
     by_cases e:k' = k
     ·rw [e]; exact q
     ·exact c3 k' g1 (by omega)⟩ (by omega)
    unfold touchB at good next
    refine has101L (x:=x) hx (onBool_bv (ifB_mk (fun e1=>?_) (fun e1=>?_)))
    ·rw [e1] at good next
     refine has101L (x:=y) hy (onBool_bv (ifB_mk (fun e2=>good (by rw [e2]; rfl)) (fun e2=>?_)))
     rw [e2] at good next
     refine has101L (x:=y) hy (onBool_bv (ifB_mk (fun e3=>good (by rw [e3]; rfl)) (fun e3=>?_)))
     exact next (by rw [e3]; rfl)
    ·exact next (by rw [e1]; rfl)
   ·have hkh:=of_decide_eq_false hb
    rw [wrapI (n:=i+1) (by omega) (by omega)]
    refine hJ2 (i+1) ⟨by omega,by omega,fun i' g1 g2 k' g3 g4=>?_⟩ (by omega)
    by_cases e:i' = i
    ·rw [e]; exact c3 k' g3 (by omega)
    ·exact b3 i' g1 (by omega) k' g3 g4
  ·have hiw:=of_decide_eq_false hb
   rw [wrapI (n:=j+1) (by omega) (by omega)]
   refine hJ (j+1) ⟨by omega,by omega,fun j' g1 g2 i' g3 g4 k' g5 g6=>?_⟩ (by omega)
   by_cases e:j' = j
   ·rw [e]; exact b3 i' g3 (by omega) k' g5 g6
   ·exact a3 j' g1 (by omega) i' g3 g4 k' g5 g6
 ·have hjd:=of_decide_eq_false hb
  refine h0 ?_
  rintro ⟨i,j', k,q1,q2,q3,q4⟩
  rw [a3 j' q2.1 (by omega) i q1.1 q1.2 k q3.1 q3.2] at q4
  cases q4
def seamB (w d h:Int) (c:List Nat) (l:List Pt) (cs:List Ld) (a b e u v:Int):Bool:=((atN w d h c a b e:Int) != 0)&&(((atN w d h c u v e:Int) != 0)&&(byI l cs a b e != byI l cs u v e))
theorem seam77 {w d h:Int} {u:Nat} {c:List Nat} {l:List Pt} {sc:Nat} {cs:List Ld} {a b e:Int} {g:Bool} {R:V→Prop} (hs:ShOK w d h c) (hu:u=1∨c=[]) (hsc:sc=5∨cs=[]) (hcs:cs.length≤1000) (hx : ∀ x∈cs,LdOK l x) (ha : -1000≤a∧a≤1000) (hb : -1000≤b∧b≤1000)
  (hR:R (bv (seamB w d h c l cs a b e (if g then a+1 else a) (if g then b else b+1)))):K0G Tryd.prog glX 77 [.agg [iv w,iv d,iv h,.lst u (nb c)],.lst 4 (ptl l),.lst sc (ldl cs),iv a,iv b,iv e,bv g] R:=by
 refine K0_of_WY0 hmX hcMo 3000 Tryd.func77 (see (p:=ifB g (K0G Tryd.prog glX 67 [V.agg [iv w,iv d,iv h,V.lst u (nb c)],iv a,iv b,iv e] fun v=>onIntK IntKind.u8 v fun n=>ifB (n != (0:Int)) (K0G Tryd.prog glX 67 [V.agg [iv w,iv d,iv h,V.lst u (nb c)],iv (IntKind.i64.wrap (a+(1:Int))),iv b,iv e] fun v=>onIntK IntKind.u8 v fun n=>ifB (n != (0:Int)) (K0G Tryd.prog glX 83 [V.lst 4 (ptl l),V.lst sc (ldl cs),iv a,iv b,iv e] fun v=>onIntK IntKind.i64 v fun n=>K0G Tryd.prog glX 83 [V.lst 4 (ptl l),V.lst sc (ldl cs),iv (IntKind.i64.wrap (a+(1:Int))),iv b,iv e] fun v=>onIntK IntKind.i64 v fun n_1=>R (bv (n != n_1))) (R (bv false))) (R (bv false))) (K0G Tryd.prog glX 67 [V.agg [iv w,iv d,iv h,V.lst u (nb c)],iv a,iv b,iv e] fun v=>onIntK IntKind.u8 v fun n=>ifB (n != (0:Int)) (K0G Tryd.prog glX 67 [V.agg [iv w,iv d,iv h,V.lst u (nb c)],iv a,iv (IntKind.i64.wrap (b+(1:Int))),iv e] fun v=>onIntK IntKind.u8 v fun n=>ifB (n != (0:Int)) (K0G Tryd.prog glX 83 [V.lst 4 (ptl l),V.lst sc (ldl cs),iv a,iv b,iv e] fun v=>onIntK IntKind.i64 v fun n=>K0G Tryd.prog glX 83 [V.lst 4 (ptl l),V.lst sc (ldl cs),iv a,iv (IntKind.i64.wrap (b+(1:Int))),iv e] fun v=>onIntK IntKind.i64 v fun n_1=>R (bv (n != n_1))) (R (bv false))) (R (bv false)))) (by kernel_rfl) ?_)
 rw [wrapI (n:=a+1) (by omega) (by omega),wrapI (n:=b+1) (by omega) (by omega)]
 unfold seamB at hR
 cases g with
 | true =>
  simp only [if_true] at hR
  refine ifB_t rfl (at67 hs hu (onIntK_u8 (ifB_mk (fun e1=>at67 hs hu (onIntK_u8 (ifB_mk (fun e2=>by83 hsc hcs hx (onIntK_iv (by83 hsc hcs hx (onIntK_iv ?_)))) (fun e2=>?_)))) (fun e1=>?_))))
  ·rw [e1,e2] at hR; exact hR
  ·rw [e1,e2] at hR; exact hR
  ·rw [e1] at hR; exact hR
 | false =>
  simp only [Bool.false_eq_true,if_false] at hR
  refine ifB_f rfl (at67 hs hu (onIntK_u8 (ifB_mk (fun e1=>at67 hs hu (onIntK_u8 (ifB_mk (fun e2=>by83 hsc hcs hx (onIntK_iv (by83 hsc hcs hx (onIntK_iv ?_)))) (fun e2=>?_)))) (fun e1=>?_))))
  ·rw [e1,e2] at hR; exact hR
  ·rw [e1,e2] at hR; exact hR
  ·rw [e1] at hR; exact hR
set_option maxRecDepth 100000
def kpG:FuncId→Nat→Option (List Tmp):=slotsOf [(45,0,[1,2,3,7,8,9]),(45,2,[1,2,3,7,8,9,10]),(45,4,[1,2,3,7,8,9,10,11]),(47,0,[1,2,3,7,8])]
noncomputable def cfG:Cfg:=cfgD Tryd.prog glX (fun _=>0) dyB (inN []) kpG
def bl1 (q:List Bool):List (List V):=q.map fun b=>[bv b]
noncomputable def sh45a (w d h:Int) (u:Nat) (c:List Nat) (l:List Pt) (sc:Nat) (cs:List Ld) (q:List Bool) (n:Int) (g:Bool):St:=⟨mkT [(1,V.lst 4 (ptl l)),(2,V.lst sc (ldl cs)),(3,V.ptr (Id.p 0) 0 0),(7,V.sl (Id.p 1) 0 q.length),(8,iv n),(9,bv g)],⟨[(0,O.rows 4 false [[iv w,iv d,iv h,V.lst u (nb c)]]),(1,O.rows 1 true (bl1 q))],2,[]⟩⟩
noncomputable def sh45b (w d h:Int) (u:Nat) (c:List Nat) (l:List Pt) (sc:Nat) (cs:List Ld) (q:List Bool) (n:Int) (g:Bool) (i:Nat):St:=⟨mkT [(1,V.lst 4 (ptl l)),(2,V.lst sc (ldl cs)),(3,V.ptr (Id.p 0) 0 0),(7,V.sl (Id.p 1) 0 q.length),(8,iv n),(9,bv g),(10,iv (i:Int))],⟨[(0,O.rows 4 false [[iv w,iv d,iv h,V.lst u (nb c)]]),(1,O.rows 1 true (bl1 q))],2,[]⟩⟩
noncomputable def sh45c (w d h:Int) (u:Nat) (c:List Nat) (l:List Pt) (sc:Nat) (cs:List Ld) (q:List Bool) (n:Int) (g:Bool) (i j:Nat):St:=⟨mkT [(1,V.lst 4 (ptl l)),(2,V.lst sc (ldl cs)),(3,V.ptr (Id.p 0) 0 0),(7,V.sl (Id.p 1) 0 q.length),(8,iv n),(9,bv g),(10,iv (i:Int)),(11,iv (j:Int))],⟨[(0,O.rows 4 false [[iv w,iv d,iv h,V.lst u (nb c)]]),(1,O.rows 1 true (bl1 q))],2,[]⟩⟩
noncomputable def sh47 (w d h:Int) (u:Nat) (c:List Nat) (l:List Pt) (sc:Nat) (cs:List Ld) (n:Int) (i:Nat):St:=⟨mkT [(1,V.lst 4 (ptl l)),(2,V.lst sc (ldl cs)),(3,V.ptr (Id.p 0) 0 0),(7,iv n),(8,iv (i:Int))],⟨[(0,O.rows 4 false [[iv w,iv d,iv h,V.lst u (nb c)]])],1,[]⟩⟩
set_option maxRecDepth 10000
theorem hcG:cfG.ok Tryd.prog:=cfgD_ok
def sm (w d h:Int) (c:List Nat) (l:List Pt) (cs:List Ld) (a b e:Int) (g:Bool):Bool:=seamB w d h c l cs a b e (if g then a+1 else a) (if g then b else b+1)
def wk1 (w d h:Int) (c:List Nat) (l:List Pt) (cs:List Ld) (t:C3):Int:=(if sm w d h c l cs t.1 t.2.1 t.2.2 true&&sm w d h c l cs t.1 t.2.1 (t.2.2+1) true then 1 else 0)+(if sm w d h c l cs t.1 t.2.1 t.2.2 false&&sm w d h c l cs t.1 t.2.1 (t.2.2+1) false then 1 else 0)
def wkN (w d h:Int) (c:List Nat) (l:List Pt) (cs:List Ld):Nat→Int
 | 0=>0
 | i+1=>wkN w d h c l cs i+wk1 w d h c l cs (cel w d i)
theorem wkN_le (w d h:Int) (c:List Nat) (l:List Pt) (cs:List Ld) : ∀ i:Nat,0≤wkN w d h c l cs i∧wkN w d h c l cs i≤2 * i
 | 0=>by simp [wkN]
 | i+1=>by
  have:=wkN_le w d h c l cs i
  unfold wkN wk1
  split <;> split <;> omega
theorem seam77' {w d h:Int} {u:Nat} {c:List Nat} {l:List Pt} {sc:Nat} {cs:List Ld} {a b e:Int} {g:Bool} {R:V→Prop} (hs:ShOK w d h c) (hu:u=1∨c=[]) (hsc:sc=5∨cs=[]) (hcs:cs.length≤1000) (hx : ∀ x∈cs,LdOK l x) (ha : -1000≤a∧a≤1000) (hb : -1000≤b∧b≤1000)
  (hR:R (bv (sm w d h c l cs a b e g))):K0G Tryd.prog glX 77 [.agg [iv w,iv d,iv h,.lst u (nb c)],.lst 4 (ptl l),.lst sc (ldl cs),iv a,iv b,iv e,bv g] R:=seam77 hs hu hsc hcs hx ha hb hR
theorem weak47 {w d h:Int} {u:Nat} {c:List Nat} {l:List Pt} {sc:Nat} {cs:List Ld} {R:V→Prop} (hs:ShOK w d h c) (hu:u=1∨c=[]) (hsc:sc=5∨cs=[]) (hcs:cs.length≤1000) (hx : ∀ x∈cs,LdOK l x) (hR:R (iv (wkN w d h c l cs c.length))):K0G Tryd.prog glX 47 [.agg [iv w,iv d,iv h,.lst u (nb c)],.lst 4 (ptl l),.lst sc (ldl cs)] R:=by
 have hw1:=hs.1; have hd1:=hs.2.1; have hh1:=hs.2.2.1
 have hlen:=hs.2.2.2.1
 have sz:=sizes hw1 hd1 hh1
 refine K0_of_WY0 hmX hcG 3000 Tryd.func47 (see (p:=La 0 [(1:Tmp),(2:Tmp),(3:Tmp),(7:Tmp),(8:Tmp)] (WY Tryd.prog cfG 2994 (Env.mk (Bs.mk 0 []) 0 none 76 47 0) (cdAt [1,1,0,1,0,0] (bodyOf Tryd.f47))) (Qblk 0 (Qthen (WY Tryd.prog cfG 2997 (Env.mk (Bs.mk 0 []) 0 none 76 47 0) (cdAt [1,1,1] (bodyOf Tryd.f47)) (QendX Tryd.prog Tryd.f47 fun v h=>R (frzW h v))) (QendX Tryd.prog Tryd.f47 fun v h=>R (frzW h v)))) (St.mk (mkT [(1,V.lst 4 (ptl l)),(2,V.lst sc (ldl cs)),(3,V.ptr (Id.p 0) 0 0),(7,iv (0:Int)),(8,iv (0:Int))]) (Hp.mk [(0,O.rows 4 false [[iv w,iv d,iv h,V.lst u (nb c)]])] 1 []))) (by kernel_rfl) ?_)
 refine La.of (σ:=Int×Nat) (fun s=>sh47 w d h u c l sc cs s.1 s.2) (fun s=>s.2≤c.length∧s.1=wkN w d h c l cs s.2) (fun s=>c.length - s.2) (0,0) (by kernel_rfl) ⟨Nat.zero_le _,rfl⟩ ?_
 rintro ⟨n,i⟩ ⟨k1,k2⟩ J hJ
 simp only at k1 k2
 refine see (p:=ifB (decide ((↑i:Int)<(↑(nb c).length:Int))) (need (w≠(0:Int)) (need (w≠(0:Int)) (need (d≠(0:Int)) (need (w≠(0:Int)) (need (d≠(0:Int)) (K0G Tryd.prog glX 77 [V.agg [iv w,iv d,iv h,V.lst u (nb c)],V.lst 4 (ptl l),V.lst sc (ldl cs),iv ((↑i:Int).tmod w),iv ((IntKind.i64.wrap ((↑i:Int).tdiv w)).tmod d),iv (IntKind.i64.wrap ((IntKind.i64.wrap ((↑i:Int).tdiv w)).tdiv d)),bv true] fun v=>onBool v fun b=>ifB b (K0G Tryd.prog glX 77 [V.agg [iv w,iv d,iv h,V.lst u (nb c)],V.lst 4 (ptl l),V.lst sc (ldl cs),iv ((↑i:Int).tmod w),iv ((IntKind.i64.wrap ((↑i:Int).tdiv w)).tmod d),iv (IntKind.i64.wrap (IntKind.i64.wrap ((IntKind.i64.wrap ((↑i:Int).tdiv w)).tdiv d)+(1:Int))),bv true] fun v=>onBool v fun b=>ifB b (K0G Tryd.prog glX 77 [V.agg [iv w,iv d,iv h,V.lst u (nb c)],V.lst 4 (ptl l),V.lst sc (ldl cs),iv ((↑i:Int).tmod w),iv ((IntKind.i64.wrap ((↑i:Int).tdiv w)).tmod d),iv (IntKind.i64.wrap ((IntKind.i64.wrap ((↑i:Int).tdiv w)).tdiv d)),bv false] fun v=>onBool v fun b=>ifB b (K0G Tryd.prog glX 77 [V.agg [iv w,iv d,iv h,V.lst u (nb c)],V.lst 4 (ptl l),V.lst sc (ldl cs),iv ((↑i:Int).tmod w),iv ((IntKind.i64.wrap ((↑i:Int).tdiv w)).tmod d),iv (IntKind.i64.wrap (IntKind.i64.wrap ((IntKind.i64.wrap ((↑i:Int).tdiv w)).tdiv d)+(1:Int))),bv false] fun v=>onBool v fun b=>ifB b (J (St.mk (mkT [(1,V.lst 4 (ptl l)),(2,V.lst sc (ldl cs)),(3,V.ptr (Id.p 0) 0 0),(7,iv (IntKind.i64.wrap (IntKind.i64.wrap (n+(1:Int))+(1:Int)))),(8,iv (IntKind.i64.wrap ((↑i:Int)+(1:Int))))]) (Hp.mk [(0,O.rows 4 false [[iv w,iv d,iv h,V.lst u (nb c)]])] 1 []))) (J (St.mk (mkT [(1,V.lst 4 (ptl l)),(2,V.lst sc (ldl cs)),(3,V.ptr (Id.p 0) 0 0),(7,iv (IntKind.i64.wrap (n+(1:Int)))),(8,iv (IntKind.i64.wrap ((↑i:Int)+(1:Int))))]) (Hp.mk [(0,O.rows 4 false [[iv w,iv d,iv h,V.lst u (nb c)]])] 1 [])))) (J (St.mk (mkT [(1,V.lst 4 (ptl l)),(2,V.lst sc (ldl cs)),(3,V.ptr (Id.p 0) 0 0),(7,iv (IntKind.i64.wrap (n+(1:Int)))),(8,iv (IntKind.i64.wrap ((↑i:Int)+(1:Int))))]) (Hp.mk [(0,O.rows 4 false [[iv w,iv d,iv h,V.lst u (nb c)]])] 1 [])))) (K0G Tryd.prog glX 77 [V.agg [iv w,iv d,iv h,V.lst u (nb c)],V.lst 4 (ptl l),V.lst sc (ldl cs),iv ((↑i:Int).tmod w),iv ((IntKind.i64.wrap ((↑i:Int).tdiv w)).tmod d),iv (IntKind.i64.wrap ((IntKind.i64.wrap ((↑i:Int).tdiv w)).tdiv d)),bv false] fun v=>onBool v fun b=>ifB b (K0G Tryd.prog glX 77 [V.agg [iv w,iv d,iv h,V.lst u (nb c)],V.lst 4 (ptl l),V.lst sc (ldl cs),iv ((↑i:Int).tmod w),iv ((IntKind.i64.wrap ((↑i:Int).tdiv w)).tmod d),iv (IntKind.i64.wrap (IntKind.i64.wrap ((IntKind.i64.wrap ((↑i:Int).tdiv w)).tdiv d)+(1:Int))),bv false] fun v=>onBool v fun b=>ifB b (J (St.mk (mkT [(1,V.lst 4 (ptl l)),(2,V.lst sc (ldl cs)),(3,V.ptr (Id.p 0) 0 0),(7,iv (IntKind.i64.wrap (n+(1:Int)))),(8,iv (IntKind.i64.wrap ((↑i:Int)+(1:Int))))]) (Hp.mk [(0,O.rows 4 false [[iv w,iv d,iv h,V.lst u (nb c)]])] 1 []))) (J (St.mk (mkT [(1,V.lst 4 (ptl l)),(2,V.lst sc (ldl cs)),(3,V.ptr (Id.p 0) 0 0),(7,iv n),(8,iv (IntKind.i64.wrap ((↑i:Int)+(1:Int))))]) (Hp.mk [(0,O.rows 4 false [[iv w,iv d,iv h,V.lst u (nb c)]])] 1 [])))) (J (St.mk (mkT [(1,V.lst 4 (ptl l)),(2,V.lst sc (ldl cs)),(3,V.ptr (Id.p 0) 0 0),(7,iv n),(8,iv (IntKind.i64.wrap ((↑i:Int)+(1:Int))))]) (Hp.mk [(0,O.rows 4 false [[iv w,iv d,iv h,V.lst u (nb c)]])] 1 []))))) (K0G Tryd.prog glX 77 [V.agg [iv w,iv d,iv h,V.lst u (nb c)],V.lst 4 (ptl l),V.lst sc (ldl cs),iv ((↑i:Int).tmod w),iv ((IntKind.i64.wrap ((↑i:Int).tdiv w)).tmod d),iv (IntKind.i64.wrap ((IntKind.i64.wrap ((↑i:Int).tdiv w)).tdiv d)),bv false] fun v=>onBool v fun b=>ifB b (K0G Tryd.prog glX 77 [V.agg [iv w,iv d,iv h,V.lst u (nb c)],V.lst 4 (ptl l),V.lst sc (ldl cs),iv ((↑i:Int).tmod w),iv ((IntKind.i64.wrap ((↑i:Int).tdiv w)).tmod d),iv (IntKind.i64.wrap (IntKind.i64.wrap ((IntKind.i64.wrap ((↑i:Int).tdiv w)).tdiv d)+(1:Int))),bv false] fun v=>onBool v fun b=>ifB b (J (St.mk (mkT [(1,V.lst 4 (ptl l)),(2,V.lst sc (ldl cs)),(3,V.ptr (Id.p 0) 0 0),(7,iv (IntKind.i64.wrap (n+(1:Int)))),(8,iv (IntKind.i64.wrap ((↑i:Int)+(1:Int))))]) (Hp.mk [(0,O.rows 4 false [[iv w,iv d,iv h,V.lst u (nb c)]])] 1 []))) (J (St.mk (mkT [(1,V.lst 4 (ptl l)),(2,V.lst sc (ldl cs)),(3,V.ptr (Id.p 0) 0 0),(7,iv n),(8,iv (IntKind.i64.wrap ((↑i:Int)+(1:Int))))]) (Hp.mk [(0,O.rows 4 false [[iv w,iv d,iv h,V.lst u (nb c)]])] 1 [])))) (J (St.mk (mkT [(1,V.lst 4 (ptl l)),(2,V.lst sc (ldl cs)),(3,V.ptr (Id.p 0) 0 0),(7,iv n),(8,iv (IntKind.i64.wrap ((↑i:Int)+(1:Int))))]) (Hp.mk [(0,O.rows 4 false [[iv w,iv d,iv h,V.lst u (nb c)]])] 1 [])))))))))) (R (iv n))) (by kernel_rfl) ?_
 rw [nb_length]
 refine ifB_mk (fun hb=>?_) (fun hb=>?_)
 ·have hlt:i<c.length:=by have:=of_decide_eq_true hb; omega
  have hi256:i<256:=by omega
  have hn:=wkN_le w d h c l cs i
  rw [← k2] at hn
  have q1:0≤(i:Int).tdiv w∧(i:Int).tdiv w≤i:=by
   rw [Int.tdiv_eq_ediv_of_nonneg (by omega)]
   exact ⟨Int.ediv_nonneg (by omega) (by omega),Int.ediv_le_self _ (by omega)⟩
  have q2:0≤((i:Int).tdiv w).tdiv d∧((i:Int).tdiv w).tdiv d≤(i:Int).tdiv w:=by
   rw [Int.tdiv_eq_ediv_of_nonneg (a:=(i:Int).tdiv w) (by omega)]
   exact ⟨Int.ediv_nonneg (by omega) (by omega),Int.ediv_le_self _ (by omega)⟩
  have q3:=(cel_pos hw1.1 hd1.1 i)
  have ha : -1000≤(i:Int).tmod w∧(i:Int).tmod w≤1000:=by
   have:=q3.1
   simp only [cel] at this
   omega
  have hb' : -1000≤((i:Int).tdiv w).tmod d∧((i:Int).tdiv w).tmod d≤1000:=by
   have:=q3.2.1
   simp only [cel] at this
   omega
  have go : ∀ n', n' = n+wk1 w d h c l cs (cel w d i)→J (sh47 w d h u c l sc cs n' (i+1)):=fun n' e=>hJ (n', i+1) ⟨hlt,by simp only; rw [e,k2]; rfl⟩ (by simp only; omega)
  unfold wk1 cel at go
  simp only at go
  refine need_mk ⟨by omega,need_mk ⟨by omega,need_mk ⟨by omega,need_mk ⟨by omega,need_mk ⟨by omega,?_⟩⟩⟩⟩⟩
  rw [wrapI (n:=(i:Int).tdiv w) (by omega) (by omega),wrapI (n:=((i:Int).tdiv w).tdiv d) (by omega) (by omega),wrapI (n:=((i:Int).tdiv w).tdiv d+1) (by omega) (by omega),wrapI (n:=(i:Int)+1) (by omega) (by omega),wrapI (n:=n+1) (by omega) (by omega),wrapI (n:=n+1+1) (by omega) (by omega)]
  generalize (i:Int).tmod w=a at *
  generalize ((i:Int).tdiv w).tmod d=b at *
  generalize ((i:Int).tdiv w).tdiv d=e at *
  have half : ∀ n' : Int, ∀ K1 K0:Prop,(sm w d h c l cs a b e false=true→sm w d h c l cs a b (e+1) false=true→K1)→((sm w d h c l cs a b e false&&sm w d h c l cs a b (e+1) false)=false→K0)→K0G Tryd.prog glX 77 [V.agg [iv w,iv d,iv h,V.lst u (nb c)],V.lst 4 (ptl l),V.lst sc (ldl cs),iv a,iv b,iv e,bv false] fun v=>onBool v fun b_1=>ifB b_1 (K0G Tryd.prog glX 77 [V.agg [iv w,iv d,iv h,V.lst u (nb c)],V.lst 4 (ptl l),V.lst sc (ldl cs),iv a,iv b,iv (e+1),bv false] fun v=>onBool v fun b=>ifB b K1 K0) K0:=fun n' K1 K0 g1 g0 =>
   seam77' hs hu hsc hcs hx ha hb' (onBool_bv (ifB_mk (fun e1=>seam77' hs hu hsc hcs hx ha hb' (onBool_bv (ifB_mk (fun e2=>g1 e1 e2) (fun e2=>g0 (by rw [e1,e2]; rfl))))) (fun e1=>g0 (by rw [e1]; rfl))))
  refine seam77' hs hu hsc hcs hx ha hb' (onBool_bv (ifB_mk (fun e1=>seam77' hs hu hsc hcs hx ha hb' (onBool_bv (ifB_mk (fun e2=>?_) (fun e2=>?_)))) (fun e1=>?_)))
  ·exact half n _ _ (fun e3 e4=>go _ (by rw [e1,e2,e3,e4]; simp; omega)) (fun e3=>go _ (by rw [e1,e2,e3]; simp))
  ·exact half n _ _ (fun e3 e4=>go _ (by rw [e1,e2,e3,e4]; simp)) (fun e3=>go _ (by rw [e1,e2,e3]; simp))
  ·exact half n _ _ (fun e3 e4=>go _ (by rw [e1,e3,e4]; simp)) (fun e3=>go _ (by rw [e1,e3]; simp))
 ·have hge:i=c.length:=by have:=of_decide_eq_false hb; omega
  rw [k2,hge]
  exact hR
inductive Tch (w d h:Int) (l:List Pt) (cs:List Ld):Nat→Prop
 | base:Tch w d h l cs 0
 | step {i j:Nat} {x y:Ld} (h1:Tch w d h l cs i) (hx:cs[i]? = some x) (hy:cs[j]? = some y) (ht:touchP w d h l x y):Tch w d h l cs j
def cnt (q:List Bool):Nat:=q.countP fun b=>b
theorem cnt_le (q:List Bool):cnt q≤q.length:=List.countP_le_length
theorem cnt_set : ∀ {q:List Bool} {j:Nat},j<q.length→q.getD j false=false→cnt (q.set j true)=cnt q+1
 | [],j,h,_=>by simp at h
 | b::q,0,h,h0=>by
  simp at h0
  subst h0
  simp [cnt]
 | b::q,j+1,h,h0=>by
  have:=cnt_set (q:=q) (j:=j) (by simpa using h) (by simpa [List.getD] using h0)
  unfold cnt at *
  rw [List.set_cons_succ,List.countP_cons,List.countP_cons,this]
  omega
theorem bl_at {q:List Bool} {j:Nat} (h:j<q.length):(bl1 q)[0+j]? = some [bv (q.getD j false)]:=by
 rw [Nat.zero_add]; simp [bl1,List.getD,h]
theorem bl_set {q:List Bool} {j:Nat} {b:Bool}:(bl1 q).set (0+j) (bv true::(List.append []) (List.drop 1 [bv b]))=bl1 (q.set j true):=by
 rw [Nat.zero_add]; unfold bl1; rw [List.map_set]; rfl
theorem getD_set {q:List Bool} {j m:Nat} (h:j<q.length):(q.set j true).getD m false=if j=m then true else q.getD m false:=by
 rw [List.getD_eq_getElem?_getD,List.getElem?_set]
 by_cases e:j=m
 ·rw [if_pos e,if_pos (by omega),if_pos e]; rfl
 ·rw [if_neg e,if_neg e,← List.getD_eq_getElem?_getD]
def TgI (w d h:Int) (l:List Pt) (cs:List Ld) (q:List Bool) (n:Int):Prop:=q.length=cs.length∧n=(cnt q:Int)∧q.getD 0 false=true ∧ ∀ m,q.getD m false=true→Tch w d h l cs m
theorem tog45 {w d h:Int} {u:Nat} {c:List Nat} {l:List Pt} {sc:Nat} {cs:List Ld} {R:V→Prop} (hs:ShOK w d h c) (hsc:sc=5∨cs=[]) (hcs:cs.length≤1000) (hne:cs≠[]) (hx : ∀ x∈cs,LdOK l x)
  (hR : ∀ q n,TgI w d h l cs q n→(∀ (i j:Nat) (x y:Ld),cs[i]? = some x→cs[j]? = some y→q.getD i false=true→touchP w d h l x y→q.getD j false=true)→R (bv (n==(cs.length:Int)))):K0G Tryd.prog glX 45 [.agg [iv w,iv d,iv h,.lst u (nb c)],.lst 4 (ptl l),.lst sc (ldl cs)] R:=by
 have hpos:0<cs.length:=List.length_pos_iff.2 hne
 have hsc5:sc=5:=hsc.resolve_right hne
 refine K0_of_WY0 hmX hcG 3000 Tryd.func45 (see (p:=need ((ldl cs).length≤(ldl cs).length) (need (1 * (ldl cs).length≤140737488355328) (need ((ldl cs).length≤9223372036854775807) (need (0<(ldl cs).length) (onSome (List.replicate (ldl cs).length [bv false])[0]? fun row=>guardB ((0+1).ble row.length) (La 0 [(1:Tmp),(2:Tmp),(3:Tmp),(7:Tmp),(8:Tmp),(9:Tmp)] (WY Tryd.prog cfG 2992 (Env.mk (Bs.mk 0 []) 0 none 63 45 0) (cdAt [1,1,1,1,0,1,0,0] (bodyOf Tryd.f45))) (Qblk 0 (Qthen (WY Tryd.prog cfG 2995 (Env.mk (Bs.mk 0 []) 0 none 63 45 0) (cdAt [1,1,1,1,1] (bodyOf Tryd.f45)) (QendX Tryd.prog Tryd.f45 fun v h=>R (frzW h v))) (QendX Tryd.prog Tryd.f45 fun v h=>R (frzW h v)))) (St.mk (mkT [(1,V.lst 4 (ptl l)),(2,V.lst sc (ldl cs)),(3,V.ptr (Id.p 0) 0 0),(7,V.sl (Id.p 1) 0 (ldl cs).length),(8,iv (1:Int)),(9,bv true)]) (Hp.mk [(0,O.rows 4 false [[iv w,iv d,iv h,V.lst u (nb c)]]),(1,O.rows 1 true ((List.replicate (ldl cs).length [bv false]).set 0 (bv true::(List.append []) (List.drop 1 row))))] 2 [])))))))) (by kernel_rfl) ?_)
 rw [ldl_length]
 refine need_mk ⟨Nat.le_refl _,need_mk ⟨by omega,need_mk ⟨by omega,need_mk ⟨hpos,onSome_mk (by simp [hpos]:(List.replicate cs.length [bv false])[0]? = some [bv false]) (guardB_mk rfl ?_)⟩⟩⟩⟩
 have hrep:(List.replicate cs.length [bv false]).set 0 (bv true::(List.append []) (List.drop 1 [bv false]))=bl1 ((List.replicate cs.length false).set 0 true):=by
  unfold bl1; rw [List.map_set,List.map_replicate]; rfl
 rw [hrep]
 have hl0:((List.replicate cs.length false).set 0 true).length=cs.length:=by simp
 refine La.of (σ:=List Bool×Int×Bool) (fun s=>sh45a w d h u c l sc cs s.1 s.2.1 s.2.2) (fun s=>TgI w d h l cs s.1 s.2.1∧(s.2.2=false → ∀ (i j:Nat) (x y:Ld),cs[i]? = some x→cs[j]? = some y→s.1.getD i false=true→touchP w d h l x y→s.1.getD j false=true)) (fun s=>(cs.length - cnt s.1) * 2+(if s.2.2 then 1 else 0)) ((List.replicate cs.length false).set 0 true,1,true) (by unfold sh45a; rw [hl0]) ⟨⟨hl0,?_,?_,fun m hm=>?_⟩,by simp⟩ ?_
 ·rw [cnt_set (by simpa using hpos) (by simp [List.getD,hpos])]
  simp [cnt,List.countP_replicate]
 ·simp only; rw [getD_set (by simpa using hpos)]; rfl
 ·simp only at hm
  rw [getD_set (by simpa using hpos)] at hm
  by_cases e:0=m
  ·subst e; exact .base
  ·rw [if_neg e] at hm
   rw [List.getD_eq_getElem?_getD,List.getElem?_replicate] at hm
   split at hm <;> simp at hm
 rintro ⟨q,n,g⟩ ⟨k1,k2⟩ J hJ
 simp only at k1 k2
 refine see (p:=ifB g (La 0 [(1:Tmp),(2:Tmp),(3:Tmp),(7:Tmp),(8:Tmp),(9:Tmp),(10:Tmp)] (WY Tryd.prog cfG 2986 (Env.mk (Bs.mk 0 []) 0 none 63 45 2) (cdAt [1,1,1,1,0,1,0,0,1,0,1,1,0,0] (bodyOf Tryd.f45))) (Qblk 2 (Qblk 1 (Qla 0 [(1:Tmp),(2:Tmp),(3:Tmp),(7:Tmp),(8:Tmp),(9:Tmp)] J (Qblk 0 (Qthen (WY Tryd.prog cfG 2995 (Env.mk (Bs.mk 0 []) 0 none 63 45 0) (cdAt [1,1,1,1,1] (bodyOf Tryd.f45)) (QendX Tryd.prog Tryd.f45 fun v h=>R (frzW h v))) (QendX Tryd.prog Tryd.f45 fun v h=>R (frzW h v))))))) (St.mk (mkT [(1,V.lst 4 (ptl l)),(2,V.lst sc (ldl cs)),(3,V.ptr (Id.p 0) 0 0),(7,V.sl (Id.p 1) 0 q.length),(8,iv n),(9,bv false),(10,iv (0:Int))]) (Hp.mk [(0,O.rows 4 false [[iv w,iv d,iv h,V.lst u (nb c)]]),(1,O.rows 1 true (bl1 q))] 2 []))) (R (bv (n==(↑(ldl cs).length:Int))))) (by kernel_rfl) ?_
 rw [ldl_length]
 refine ifB_mk (fun hg=>?_) (fun hg=>hR q n k1 (k2 hg))
 subst hg
 obtain ⟨q0,hq0⟩ : ∃ q0,q0=q:=⟨_,rfl⟩
 clear k2
 have hc0:cnt q0≤cs.length:=by rw [hq0,← k1.1]; exact cnt_le q
 refine La.of (σ:=(List Bool×Int×Bool)×Nat) (fun s=>sh45b w d h u c l sc cs s.1.1 s.1.2.1 s.1.2.2 s.2) (fun s=>s.2≤cs.length∧TgI w d h l cs s.1.1 s.1.2.1∧(s.1.2.2=true→cnt q0<cnt s.1.1)∧(s.1.2.2=false→s.1.1=q0 ∧ ∀ (i j:Nat) (x y:Ld),i<s.2→cs[i]? = some x→cs[j]? = some y→q0.getD i false=true→touchP w d h l x y→q0.getD j false=true)) (fun s=>cs.length - s.2) ((q,n,false),0) (by kernel_rfl) ⟨Nat.zero_le _,k1,by simp,fun _=>⟨hq0.symm,fun i j x y hi=>absurd hi (Nat.not_lt_zero _)⟩⟩ ?_
 clear k1
 rintro ⟨⟨q,n,g⟩,i⟩ ⟨a1,a2,a3,a4⟩ J2 hJ2
 simp only at a1 a2 a3 a4
 refine see (p:=ifB (decide ((↑i:Int)<(↑(ldl cs).length:Int))) (La 0 [(1:Tmp),(2:Tmp),(3:Tmp),(7:Tmp),(8:Tmp),(9:Tmp),(10:Tmp),(11:Tmp)] (WY Tryd.prog cfG 2980 (Env.mk (Bs.mk 0 []) 0 none 63 45 4) (cdAt [1,1,1,1,0,1,0,0,1,0,1,1,0,0,1,0,0,1,0,0] (bodyOf Tryd.f45))) (Qblk 4 (Qblk 3 (Qthen (WY Tryd.prog cfG 2984 (Env.mk (Bs.mk 0 []) 0 none 63 45 2) (cdAt [1,1,1,1,0,1,0,0,1,0,1,1,0,0,1,1] (bodyOf Tryd.f45)) (Qla 0 [(1:Tmp),(2:Tmp),(3:Tmp),(7:Tmp),(8:Tmp),(9:Tmp),(10:Tmp)] J2 (Qblk 2 (Qblk 1 (Qla 0 [(1:Tmp),(2:Tmp),(3:Tmp),(7:Tmp),(8:Tmp),(9:Tmp)] J (Qblk 0 (Qthen (WY Tryd.prog cfG 2995 (Env.mk (Bs.mk 0 []) 0 none 63 45 0) (cdAt [1,1,1,1,1] (bodyOf Tryd.f45)) (QendX Tryd.prog Tryd.f45 fun v h=>R (frzW h v))) (QendX Tryd.prog Tryd.f45 fun v h=>R (frzW h v))))))))) (Qla 0 [(1:Tmp),(2:Tmp),(3:Tmp),(7:Tmp),(8:Tmp),(9:Tmp),(10:Tmp)] J2 (Qblk 2 (Qblk 1 (Qla 0 [(1:Tmp),(2:Tmp),(3:Tmp),(7:Tmp),(8:Tmp),(9:Tmp)] J (Qblk 0 (Qthen (WY Tryd.prog cfG 2995 (Env.mk (Bs.mk 0 []) 0 none 63 45 0) (cdAt [1,1,1,1,1] (bodyOf Tryd.f45)) (QendX Tryd.prog Tryd.f45 fun v h=>R (frzW h v))) (QendX Tryd.prog Tryd.f45 fun v h=>R (frzW h v))))))))))) (St.mk (mkT [(1,V.lst 4 (ptl l)),(2,V.lst sc (ldl cs)),(3,V.ptr (Id.p 0) 0 0),(7,V.sl (Id.p 1) 0 q.length),(8,iv n),(9,bv g),(10,iv (↑i:Int)),(11,iv (0:Int))]) (Hp.mk [(0,O.rows 4 false [[iv w,iv d,iv h,V.lst u (nb c)]]),(1,O.rows 1 true (bl1 q))] 2 []))) (J (St.mk (mkT [(1,V.lst 4 (ptl l)),(2,V.lst sc (ldl cs)),(3,V.ptr (Id.p 0) 0 0),(7,V.sl (Id.p 1) 0 q.length),(8,iv n),(9,bv g)]) (Hp.mk [(0,O.rows 4 false [[iv w,iv d,iv h,V.lst u (nb c)]]),(1,O.rows 1 true (bl1 q))] 2 [])))) (by kernel_rfl) ?_
 rw [ldl_length]
 refine ifB_mk (fun hb=>?_) (fun hb=>?_)
 ·have hi:i<cs.length:=by have:=of_decide_eq_true hb; omega
  obtain ⟨x,hxi⟩:=getI hi
  refine La.of (σ:=(List Bool×Int×Bool)×Nat) (fun s=>sh45c w d h u c l sc cs s.1.1 s.1.2.1 s.1.2.2 i s.2) (fun s=>s.2≤cs.length∧TgI w d h l cs s.1.1 s.1.2.1∧(s.1.2.2=true→cnt q0<cnt s.1.1)∧(s.1.2.2=false→s.1.1=q0∧(∀ (i' j:Nat) (x y:Ld),i' < i→cs[i']? = some x→cs[j]? = some y→q0.getD i' false=true→touchP w d h l x y→q0.getD j false=true) ∧ ∀ (j:Nat) (y:Ld),j<s.2→cs[j]? = some y→q0.getD i false=true→touchP w d h l x y→q0.getD j false=true)) (fun s=>cs.length - s.2) ((q,n,g),0) (by kernel_rfl) ⟨Nat.zero_le _,a2,a3,fun hg=>⟨(a4 hg).1,(a4 hg).2,fun j y hj=>absurd hj (Nat.not_lt_zero _)⟩⟩ ?_
  clear a2 a3 a4
  rintro ⟨⟨q,n,g⟩,j⟩ ⟨b1,b2,b3,b4⟩ J3 hJ3
  simp only at b1 b2 b3 b4
  refine see (p:=ifB (decide ((↑j:Int)<(↑(ldl cs).length:Int))) (need (i<q.length) (onSome (bl1 q)[0+i]? fun row=>onSome row[0]? fun v=>onBool v fun b=>ifB b (need (j<q.length) (onSome (bl1 q)[0+j]? fun row=>onSome row[0]? fun v=>onBool v fun b=>ifB (!b) (need (sc=5) (onSome (ldl cs)[i]? fun row=>onCons (List.drop 0 row) fun u_1 r=>onIntK IntKind.i64 u_1 fun n_1=>onCons r fun u_2 r=>onIntK IntKind.i64 u_2 fun n_2=>onCons r fun u_3 r=>onIntK IntKind.i64 u_3 fun n_3=>onCons r fun u_4 r=>onIntK IntKind.i64 u_4 fun n_4=>onCons r fun u_5 r=>onBool u_5 fun b=>need (sc=5) (onSome (ldl cs)[j]? fun row=>onCons (List.drop 0 row) fun u_6 r=>onIntK IntKind.i64 u_6 fun n_5=>onCons r fun u_7 r=>onIntK IntKind.i64 u_7 fun n_6=>onCons r fun u_8 r=>onIntK IntKind.i64 u_8 fun n_7=>onCons r fun u_9 r=>onIntK IntKind.i64 u_9 fun n_8=>onCons r fun u_10 r=>onBool u_10 fun b_1=>K0G Tryd.prog glX 75 [V.agg [iv w,iv d,iv h,V.lst u (nb c)],V.lst 4 (ptl l),V.agg [iv n_1,iv n_2,iv n_3,iv n_4,bv b],V.agg [iv n_5,iv n_6,iv n_7,iv n_8,bv b_1]] fun v=>onBool v fun b=>ifB b (need (j<q.length) (onSome (bl1 q)[0+j]? fun row=>guardB ((0+1).ble row.length) (J3 (St.mk (mkT [(1,V.lst 4 (ptl l)),(2,V.lst sc (ldl cs)),(3,V.ptr (Id.p 0) 0 0),(7,V.sl (Id.p 1) 0 q.length),(8,iv (IntKind.i64.wrap (n+(1:Int)))),(9,bv true),(10,iv (↑i:Int)),(11,iv (IntKind.i64.wrap ((↑j:Int)+(1:Int))))]) (Hp.mk [(0,O.rows 4 false [[iv w,iv d,iv h,V.lst u (nb c)]]),(1,O.rows 1 true ((bl1 q).set (0+j) (bv true::(List.append []) (List.drop 1 row))))] 2 []))))) (J3 (St.mk (mkT [(1,V.lst 4 (ptl l)),(2,V.lst sc (ldl cs)),(3,V.ptr (Id.p 0) 0 0),(7,V.sl (Id.p 1) 0 q.length),(8,iv n),(9,bv g),(10,iv (↑i:Int)),(11,iv (IntKind.i64.wrap ((↑j:Int)+(1:Int))))]) (Hp.mk [(0,O.rows 4 false [[iv w,iv d,iv h,V.lst u (nb c)]]),(1,O.rows 1 true (bl1 q))] 2 [])))))) (J3 (St.mk (mkT [(1,V.lst 4 (ptl l)),(2,V.lst sc (ldl cs)),(3,V.ptr (Id.p 0) 0 0),(7,V.sl (Id.p 1) 0 q.length),(8,iv n),(9,bv g),(10,iv (↑i:Int)),(11,iv (IntKind.i64.wrap ((↑j:Int)+(1:Int))))]) (Hp.mk [(0,O.rows 4 false [[iv w,iv d,iv h,V.lst u (nb c)]]),(1,O.rows 1 true (bl1 q))] 2 []))))) (J3 (St.mk (mkT [(1,V.lst 4 (ptl l)),(2,V.lst sc (ldl cs)),(3,V.ptr (Id.p 0) 0 0),(7,V.sl (Id.p 1) 0 q.length),(8,iv n),(9,bv g),(10,iv (↑i:Int)),(11,iv (IntKind.i64.wrap ((↑j:Int)+(1:Int))))]) (Hp.mk [(0,O.rows 4 false [[iv w,iv d,iv h,V.lst u (nb c)]]),(1,O.rows 1 true (bl1 q))] 2 []))))) (J2 (St.mk (mkT [(1,V.lst 4 (ptl l)),(2,V.lst sc (ldl cs)),(3,V.ptr (Id.p 0) 0 0),(7,V.sl (Id.p 1) 0 q.length),(8,iv n),(9,bv g),(10,iv (IntKind.i64.wrap ((↑i:Int)+(1:Int))))]) (Hp.mk [(0,O.rows 4 false [[iv w,iv d,iv h,V.lst u (nb c)]]),(1,O.rows 1 true (bl1 q))] 2 [])))) (by kernel_rfl) ?_
  rw [ldl_length]
  refine ifB_mk (fun hb=>?_) (fun hb=>?_)
  ·have hj:j<cs.length:=by have:=of_decide_eq_true hb; omega
   obtain ⟨y,hyj⟩:=getI hj
   obtain ⟨t1,t2,t3,t4⟩:=id b2
   have hcn:=cnt_le q
   rw [wrapI (n:=(j:Int)+1) (by omega) (by omega),wrapI (n:=n+1) (by omega) (by omega)]
   have keep:(q.getD i false=true→touchP w d h l x y→q.getD j false=true)→J3 (sh45c w d h u c l sc cs q n g i (j+1)):=fun r=>hJ3 ((q,n,g),j+1) ⟨hj,b2,b3,fun hg=>⟨(b4 hg).1,(b4 hg).2.1,fun j' y' hj' hy' => by
    have hj' : j' < j+1:=hj'
    by_cases e:j' = j
    ·subst e
     rw [hyj] at hy'
     cases hy'
     rw [← (b4 hg).1]
     exact r
    ·exact (b4 hg).2.2 j' y' (by omega) hy'⟩⟩ (by simp only; omega)
   refine need_mk ⟨by omega,onSome_mk (bl_at (by omega)) (onSome_mk rfl (onBool_bv (ifB_mk (fun e1=>?_) (fun e1=>keep fun r=>by rw [e1] at r; cases r))))⟩
   refine need_mk ⟨by omega,onSome_mk (bl_at (by omega)) (onSome_mk rfl (onBool_bv (ifB_mk (fun e2=>?_) (fun e2=>keep fun _ _=>by simpa using e2))))⟩
   have e2:q.getD j false=false:=by simpa using e2
   refine need_mk ⟨hsc5,ldel hxi (need_mk ⟨hsc5,ldel hyj ?_⟩)⟩
   refine touch75 (x:=x) (y:=y) hs (hx x (List.mem_of_getElem? hxi)) (hx y (List.mem_of_getElem? hyj)) (fun ht=>onBool_bv (ifB_t rfl ?_)) (fun ht=>onBool_bv (ifB_f rfl (keep fun _ r=>absurd r ht)))
   refine need_mk ⟨by omega,onSome_mk (bl_at (by omega)) (guardB_mk rfl ?_)⟩
   rw [bl_set]
   have hcs' := cnt_set (q:=q) (j:=j) (by omega) e2
   have:=hJ3 ((q.set j true,n+1,true),j+1) ⟨hj,⟨by simp only [List.length_set]; exact t1,by simp only; rw [hcs', t2]; simp,by simp only; rw [getD_set (by omega)]; split <;> first | rfl | exact t3,fun m hm=>by
    simp only at hm
    rw [getD_set (by omega)] at hm
    by_cases e:j=m
    ·subst e; exact .step (t4 i e1) hxi hyj ht
    ·rw [if_neg e] at hm; exact t4 m hm⟩,fun _=>by
     simp only
     rw [hcs']
     cases g with
     | true=>have:=b3 rfl; omega
     | false=>rw [(b4 rfl).1]; omega,by simp⟩ (by simp only; omega)
   simp only at this
   unfold sh45c at this
   rw [List.length_set] at this
   exact this
  ·have hj:j=cs.length:=by have:=of_decide_eq_false hb; omega
   obtain ⟨_,t2,_,_⟩:=id b2
   rw [wrapI (n:=(i:Int)+1) (by omega) (by omega)]
   refine hJ2 ((q,n,g),i+1) ⟨hi,b2,b3,fun hg=>⟨(b4 hg).1,fun i' j' x' y' hi' hx' hy' => ?_⟩⟩ (by simp only; omega)
   have hi' : i' < i+1:=hi'
   by_cases e:i' = i
   ·subst e
    rw [hxi] at hx'
    cases hx'
    exact (b4 hg).2.2 j' y' (by have:=(List.getElem?_eq_some_iff.1 hy').1; omega) hy'
   ·exact (b4 hg).2.1 i' j' x' y' (by omega) hx' hy'
 ·have hi:i=cs.length:=by have:=of_decide_eq_false hb; omega
  refine hJ (q,n,g) ⟨a2,fun hg i' j' x' y' hx' hy' => ?_⟩ ?_
  ·have:=(a4 hg).2 i' j' x' y' (by have:=(List.getElem?_eq_some_iff.1 hx').1; omega) hx' hy'
   simp only
   rw [(a4 hg).1]
   exact this
  ·have hcn:=cnt_le q
   have:=a2.1
   simp only
   rw [← hq0]
   cases g with
   | true=>have:=a3 rfl; simp; omega
   | false=>rw [(a4 rfl).1]; simp
end Go.Proofs.YtkkgicjioajimaaDoor
