/- A part of the proof. -/
import Derived.Test.YtkkgicjioajimaaDoorProg
import Derived.Test.YtkkgicjioajimaaDoorXA5G9
import Derived.Test.YtkkgicjioajimaaDoorXA5G10
import Derived.Test.YtkkgicjioajimaaDoorXA5G13
import Derived.Test.YtkkgicjioajimaaDoorXA5G14
namespace Go.Proofs.YtkkgicjioajimaaDoor
open Go Go.Proofs.YtkkgicjioajimaaDoor.Clean
set_option linter.unusedVariables false
set_option linter.unusedSimpArgs false
set_option maxRecDepth 10000
def liesP (w d h:Int) (c:List Nat) (l:List Pt) (x:Ld):Prop:=((0≤x.1∧x.1<l.length)∧(0≤x.2.1.1∧x.2.1.1<w)∧(0≤x.2.1.2.1∧x.2.1.2.1<d)∧0≤x.2.1.2.2∧x.2.1.2.2<h) ∧
 ∃ p,l[x.1.toNat]? = some p ∧ ¬ (x.2.2=true∧p.1=p.2.1)∧(∀ y,x.2.1.2.1≤y→y<x.2.1.2.1+sdp p x.2.2 → ∀ z,x.2.1.1≤z→z<x.2.1.1+swd p x.2.2→atN w d h c z y x.2.1.2.2=atN w d h c x.2.1.1 x.2.1.2.1 x.2.1.2.2) ∧
  atN w d h c x.2.1.1 x.2.1.2.1 x.2.1.2.2≠0∧(p.2.2.2=0∨p.2.2.2=atN w d h c x.2.1.1 x.2.1.2.1 x.2.1.2.2)
theorem lies81 {w d h:Int} {u:Nat} {c:List Nat} {l:List Pt} {x:Ld} {R:V→Prop} (hs:ShOK w d h c) (hu:u=1∨c=[]) (hpt:PtOK l) (h1:liesP w d h c l x→R (bv true)) (h0 : ¬ liesP w d h c l x→R (bv false)):K0G Tryd.prog glX 81 [.agg [iv w,iv d,iv h,.lst u (nb c)],.lst 4 (ptl l),.agg (ldR x)] R:=by
 have hw1:=hs.1; have hd1:=hs.2.1; have hh1:=hs.2.2.1
 have hl:=hpt.1
 refine K0_of_WY0 hmX hcMo 3000 Tryd.func81 (see (p:=ifB (decide (x.1 ≥ (0:Int))) (ifB (!decide (x.1≤IntKind.i64.wrap ((↑(ptl l).length:Int) - (1:Int)))) (R (bv false)) (ifB (decide (x.2.1.1 ≥ (0:Int))) (ifB (!decide (x.2.1.1≤IntKind.i64.wrap (w - (1:Int)))) (R (bv false)) (ifB (decide (x.2.1.2.1 ≥ (0:Int))) (ifB (!decide (x.2.1.2.1≤IntKind.i64.wrap (d - (1:Int)))) (R (bv false)) (ifB (decide (x.2.1.2.2 ≥ (0:Int))) (ifB (!decide (x.2.1.2.2≤IntKind.i64.wrap (h - (1:Int)))) (R (bv false)) (onNat x.1 fun m=>onSome (ptl l)[m]? fun row=>onCons (List.drop 0 row) fun u_1 r=>onIntK IntKind.i64 u_1 fun n=>onCons r fun u_2 r=>onIntK IntKind.i64 u_2 fun n_1=>onCons r fun u_3 r=>onIntK IntKind.i64 u_3 fun n_2=>onCons r fun u_4 r=>onIntK IntKind.u8 u_4 fun n_3=>ifB x.2.2 (ifB (n==n_1) (R (bv false)) (K0G Tryd.prog glX 103 [V.lst 4 (ptl l),V.agg [iv x.1,iv x.2.1.1,iv x.2.1.2.1,iv x.2.1.2.2,bv x.2.2]] fun v=>onTup v fun vs=>onCons vs fun u_5 r=>onIntK IntKind.i64 u_5 fun n_4=>onCons r fun u_6 r=>onIntK IntKind.i64 u_6 fun n_5=>onNil r (K0G Tryd.prog glX 67 [V.agg [iv w,iv d,iv h,V.lst u (nb c)],iv x.2.1.1,iv x.2.1.2.1,iv x.2.1.2.2] fun v=>onIntK IntKind.u8 v fun n_6=>La 0 [(3:Tmp),(5:Tmp),(7:Tmp),(8:Tmp),(9:Tmp),(10:Tmp),(11:Tmp)] (WY Tryd.prog cfM 2990 (Env.mk (Bs.mk 0 []) 0 none 127 81 0) (cdAt [1,1,1,1,1,1,0,1,0,0] (bodyOf Tryd.f81))) (Qblk 0 (Qthen (WY Tryd.prog cfM 2993 (Env.mk (Bs.mk 0 []) 0 none 127 81 0) (cdAt [1,1,1,1,1,1,1] (bodyOf Tryd.f81)) (QendX Tryd.prog Tryd.f81 fun v h=>R (frzW h v))) (QendX Tryd.prog Tryd.f81 fun v h=>R (frzW h v)))) (St.mk (mkT [(3,V.ptr (Id.p 0) 0 0),(5,V.ptr (Id.p 1) 0 0),(7,V.ptr (Id.p 2) 0 0),(8,iv n_4),(9,iv n_5),(10,V.raw (Value.int IntKind.u8 n_6)),(11,iv x.2.1.2.1)]) (Hp.mk [(0,O.rows 4 false [[iv w,iv d,iv h,V.lst u (nb c)]]),(1,O.rows 5 false [[iv x.1,iv x.2.1.1,iv x.2.1.2.1,iv x.2.1.2.2,bv x.2.2]]),(2,O.rows 4 false [[iv n,iv n_1,iv n_2,V.raw (Value.int IntKind.u8 n_3)]])] 3 []))))) (K0G Tryd.prog glX 103 [V.lst 4 (ptl l),V.agg [iv x.1,iv x.2.1.1,iv x.2.1.2.1,iv x.2.1.2.2,bv x.2.2]] fun v=>onTup v fun vs=>onCons vs fun u_5 r=>onIntK IntKind.i64 u_5 fun n_4=>onCons r fun u_6 r=>onIntK IntKind.i64 u_6 fun n_5=>onNil r (K0G Tryd.prog glX 67 [V.agg [iv w,iv d,iv h,V.lst u (nb c)],iv x.2.1.1,iv x.2.1.2.1,iv x.2.1.2.2] fun v=>onIntK IntKind.u8 v fun n_6=>La 0 [(3:Tmp),(5:Tmp),(7:Tmp),(8:Tmp),(9:Tmp),(10:Tmp),(11:Tmp)] (WY Tryd.prog cfM 2990 (Env.mk (Bs.mk 0 []) 0 none 127 81 0) (cdAt [1,1,1,1,1,1,0,1,0,0] (bodyOf Tryd.f81))) (Qblk 0 (Qthen (WY Tryd.prog cfM 2993 (Env.mk (Bs.mk 0 []) 0 none 127 81 0) (cdAt [1,1,1,1,1,1,1] (bodyOf Tryd.f81)) (QendX Tryd.prog Tryd.f81 fun v h=>R (frzW h v))) (QendX Tryd.prog Tryd.f81 fun v h=>R (frzW h v)))) (St.mk (mkT [(3,V.ptr (Id.p 0) 0 0),(5,V.ptr (Id.p 1) 0 0),(7,V.ptr (Id.p 2) 0 0),(8,iv n_4),(9,iv n_5),(10,V.raw (Value.int IntKind.u8 n_6)),(11,iv x.2.1.2.1)]) (Hp.mk [(0,O.rows 4 false [[iv w,iv d,iv h,V.lst u (nb c)]]),(1,O.rows 5 false [[iv x.1,iv x.2.1.1,iv x.2.1.2.1,iv x.2.1.2.2,bv x.2.2]]),(2,O.rows 4 false [[iv n,iv n_1,iv n_2,V.raw (Value.int IntKind.u8 n_3)]])] 3 [])))))) (R (bv false)))) (R (bv false)))) (R (bv false)))) (R (bv false))) (by kernel_rfl) ?_)
 rw [ptl_length,wrapI (n:=(l.length:Int) - 1) (by omega) (by omega),wrapI (n:=w - 1) (by omega) (by omega),wrapI (n:=d - 1) (by omega) (by omega),wrapI (n:=h - 1) (by omega) (by omega)]
 refine ifB_mk (fun e1=>?_) (fun e1=>h0 fun q=>by have:=q.1; simp at e1; omega)
 refine ifB_mk (fun e2=>h0 fun q=>by have:=q.1; simp at e2; omega) (fun e2=>?_)
 refine ifB_mk (fun e3=>?_) (fun e3=>h0 fun q=>by have:=q.1; simp at e3; omega)
 refine ifB_mk (fun e4=>h0 fun q=>by have:=q.1; simp at e4; omega) (fun e4=>?_)
 refine ifB_mk (fun e5=>?_) (fun e5=>h0 fun q=>by have:=q.1; simp at e5; omega)
 refine ifB_mk (fun e6=>h0 fun q=>by have:=q.1; simp at e6; omega) (fun e6=>?_)
 refine ifB_mk (fun e7=>?_) (fun e7=>h0 fun q=>by have:=q.1; simp at e7; omega)
 refine ifB_mk (fun e8=>h0 fun q=>by have:=q.1; simp at e8; omega) (fun e8=>?_)
 simp at e1 e2 e3 e4 e5 e6 e7 e8
 have hq:(0≤x.1∧x.1<l.length)∧(0≤x.2.1.1∧x.2.1.1<w)∧(0≤x.2.1.2.1∧x.2.1.2.1<d)∧0≤x.2.1.2.2∧x.2.1.2.2<h:=by omega
 clear e1 e2 e3 e4 e5 e6 e7 e8
 obtain ⟨p,hp⟩:=getI (l:=l) (k:=x.1.toNat) (by omega)
 have hpo:=hpt.2.1 _ p hp
 have hsz:=swd_le hpo x.2.2
 have hxi:x.1=(x.1.toNat:Int):=by omega
 obtain ⟨sw,hsw⟩ : ∃ sw:Int,sw=swd p x.2.2:=⟨_,rfl⟩
 obtain ⟨sd,hsd⟩ : ∃ sd:Int,sd=sdp p x.2.2:=⟨_,rfl⟩
 obtain ⟨col,hcol⟩ : ∃ col:Int,col=(atN w d h c x.2.1.1 x.2.1.2.1 x.2.1.2.2:Int):=⟨_,rfl⟩
 rw [← hsw,← hsd] at hsz
 have get : ∀ q:liesP w d h c l x, ¬ (x.2.2=true∧p.1=p.2.1)∧(∀ y,x.2.1.2.1≤y→y<x.2.1.2.1+sd → ∀ z,x.2.1.1≤z→z<x.2.1.1+sw→atN w d h c z y x.2.1.2.2=atN w d h c x.2.1.1 x.2.1.2.1 x.2.1.2.2)∧atN w d h c x.2.1.1 x.2.1.2.1 x.2.1.2.2≠0∧(p.2.2.2=0∨p.2.2.2=atN w d h c x.2.1.1 x.2.1.2.1 x.2.1.2.2):=by
  rintro ⟨_,p', g1,g2⟩
  rw [hp] at g1
  cases g1
  rw [hsw,hsd]
  exact g2
 have tail : ¬ (x.2.2=true∧p.1=p.2.1)→La 0 [(3:Tmp),(5:Tmp),(7:Tmp),(8:Tmp),(9:Tmp),(10:Tmp),(11:Tmp)] (WY Tryd.prog cfM 2990 (Env.mk (Bs.mk 0 []) 0 none 127 81 0) (cdAt [1,1,1,1,1,1,0,1,0,0] (bodyOf Tryd.f81))) (Qblk 0 (Qthen (WY Tryd.prog cfM 2993 (Env.mk (Bs.mk 0 []) 0 none 127 81 0) (cdAt [1,1,1,1,1,1,1] (bodyOf Tryd.f81)) (QendX Tryd.prog Tryd.f81 fun v h=>R (frzW h v))) (QendX Tryd.prog Tryd.f81 fun v h=>R (frzW h v)))) (sh81a w d h u c x p sw sd col x.2.1.2.1):=by
  intro hns
  refine La.of (σ:=Int) (fun y=>sh81a w d h u c x p sw sd col y) (fun y=>x.2.1.2.1≤y∧y≤x.2.1.2.1+sd ∧ ∀ y', x.2.1.2.1≤y' → y' < y → ∀ z,x.2.1.1≤z→z<x.2.1.1+sw→atN w d h c z y' x.2.1.2.2=atN w d h c x.2.1.1 x.2.1.2.1 x.2.1.2.2) (fun y=>(x.2.1.2.1+sd - y).toNat) x.2.1.2.1 (by kernel_rfl) ⟨Int.le_refl _,by omega,fun y' _ _=>by omega⟩ ?_
  rintro y ⟨k1,k2,k3⟩ J hJ
  refine see (p:=ifB (decide (y<IntKind.i64.wrap (x.2.1.2.1+sd))) (La 0 [(3:Tmp),(5:Tmp),(7:Tmp),(8:Tmp),(9:Tmp),(10:Tmp),(11:Tmp),(12:Tmp)] (WY Tryd.prog cfM 2984 (Env.mk (Bs.mk 0 []) 0 none 127 81 2) (cdAt [1,1,1,1,1,1,0,1,0,0,1,0,0,1,0,0] (bodyOf Tryd.f81))) (Qblk 2 (Qblk 1 (Qthen (WY Tryd.prog cfM 2988 (Env.mk (Bs.mk 0 []) 0 none 127 81 0) (cdAt [1,1,1,1,1,1,0,1,0,0,1,1] (bodyOf Tryd.f81)) (Qla 0 [(3:Tmp),(5:Tmp),(7:Tmp),(8:Tmp),(9:Tmp),(10:Tmp),(11:Tmp)] J (Qblk 0 (Qthen (WY Tryd.prog cfM 2993 (Env.mk (Bs.mk 0 []) 0 none 127 81 0) (cdAt [1,1,1,1,1,1,1] (bodyOf Tryd.f81)) (QendX Tryd.prog Tryd.f81 fun v h=>R (frzW h v))) (QendX Tryd.prog Tryd.f81 fun v h=>R (frzW h v)))))) (Qla 0 [(3:Tmp),(5:Tmp),(7:Tmp),(8:Tmp),(9:Tmp),(10:Tmp),(11:Tmp)] J (Qblk 0 (Qthen (WY Tryd.prog cfM 2993 (Env.mk (Bs.mk 0 []) 0 none 127 81 0) (cdAt [1,1,1,1,1,1,1] (bodyOf Tryd.f81)) (QendX Tryd.prog Tryd.f81 fun v h=>R (frzW h v))) (QendX Tryd.prog Tryd.f81 fun v h=>R (frzW h v)))))))) (St.mk (mkT [(3,V.ptr (Id.p 0) 0 0),(5,V.ptr (Id.p 1) 0 0),(7,V.ptr (Id.p 2) 0 0),(8,iv sw),(9,iv sd),(10,V.raw (Value.int IntKind.u8 col)),(11,iv y),(12,iv x.2.1.1)]) (Hp.mk [(0,O.rows 4 false [[iv w,iv d,iv h,V.lst u (nb c)]]),(1,O.rows 5 false [[iv x.1,iv x.2.1.1,iv x.2.1.2.1,iv x.2.1.2.2,bv x.2.2]]),(2,O.rows 4 false [[iv p.1,iv p.2.1,iv p.2.2.1,V.raw (Value.int IntKind.u8 (↑p.2.2.2:Int))]])] 3 []))) (ifB (col != (0:Int)) (ifB ((↑p.2.2.2:Int)==(0:Int)) (R (bv true)) (R (bv ((↑p.2.2.2:Int)==col)))) (R (bv false)))) (by kernel_rfl) ?_
  rw [wrapI (n:=x.2.1.2.1+sd) (by omega) (by omega)]
  refine ifB_mk (fun hb=>?_) (fun hb=>?_)
  ·have hlt:=of_decide_eq_true hb
   refine La.of (σ:=Int) (fun z=>sh81b w d h u c x p sw sd col y z) (fun z=>x.2.1.1≤z∧z≤x.2.1.1+sw ∧ ∀ z', x.2.1.1≤z' → z' < z→atN w d h c z' y x.2.1.2.2=atN w d h c x.2.1.1 x.2.1.2.1 x.2.1.2.2) (fun z=>(x.2.1.1+sw - z).toNat) x.2.1.1 (by kernel_rfl) ⟨Int.le_refl _,by omega,fun z' _ _=>by omega⟩ ?_
   rintro z ⟨m1,m2,m3⟩ J2 hJ2
   refine see (p:=ifB (decide (z<IntKind.i64.wrap (x.2.1.1+sw))) (K0G Tryd.prog glX 67 [V.agg [iv w,iv d,iv h,V.lst u (nb c)],iv z,iv y,iv x.2.1.2.2] fun v=>onIntK IntKind.u8 v fun n=>ifB (n != col) (R (bv false)) (J2 (St.mk (mkT [(3,V.ptr (Id.p 0) 0 0),(5,V.ptr (Id.p 1) 0 0),(7,V.ptr (Id.p 2) 0 0),(8,iv sw),(9,iv sd),(10,V.raw (Value.int IntKind.u8 col)),(11,iv y),(12,iv (IntKind.i64.wrap (z+(1:Int))))]) (Hp.mk [(0,O.rows 4 false [[iv w,iv d,iv h,V.lst u (nb c)]]),(1,O.rows 5 false [[iv x.1,iv x.2.1.1,iv x.2.1.2.1,iv x.2.1.2.2,bv x.2.2]]),(2,O.rows 4 false [[iv p.1,iv p.2.1,iv p.2.2.1,V.raw (Value.int IntKind.u8 (↑p.2.2.2:Int))]])] 3 [])))) (J (St.mk (mkT [(3,V.ptr (Id.p 0) 0 0),(5,V.ptr (Id.p 1) 0 0),(7,V.ptr (Id.p 2) 0 0),(8,iv sw),(9,iv sd),(10,V.raw (Value.int IntKind.u8 col)),(11,iv (IntKind.i64.wrap (y+(1:Int))))]) (Hp.mk [(0,O.rows 4 false [[iv w,iv d,iv h,V.lst u (nb c)]]),(1,O.rows 5 false [[iv x.1,iv x.2.1.1,iv x.2.1.2.1,iv x.2.1.2.2,bv x.2.2]]),(2,O.rows 4 false [[iv p.1,iv p.2.1,iv p.2.2.1,V.raw (Value.int IntKind.u8 (↑p.2.2.2:Int))]])] 3 [])))) (by kernel_rfl) ?_
   rw [wrapI (n:=x.2.1.1+sw) (by omega) (by omega)]
   refine ifB_mk (fun hc=>?_) (fun hc=>?_)
   ·have hlz:=of_decide_eq_true hc
    refine at67 hs hu (onIntK_u8 (ifB_mk (fun e=>h0 fun q=>?_) (fun e=>?_)))
    ·have:=(get q).2.1 y k1 hlt z m1 hlz
     rw [hcol,this] at e; simp at e
    ·have e:atN w d h c z y x.2.1.2.2=atN w d h c x.2.1.1 x.2.1.2.1 x.2.1.2.2:=by simp at e; omega
     rw [wrapI (n:=z+1) (by omega) (by omega)]
     refine hJ2 (z+1) ⟨by omega,by omega,fun z' g1 g2=>?_⟩ (by omega)
     by_cases g:z' = z
     ·rw [g]; exact e
     ·exact m3 z' g1 (by omega)
   ·have hge:=of_decide_eq_false hc
    rw [wrapI (n:=y+1) (by omega) (by omega)]
    refine hJ (y+1) ⟨by omega,by omega,fun y' g1 g2 z' f1 f2=>?_⟩ (by omega)
    by_cases g:y' = y
    ·rw [g]; exact m3 z' f1 (by omega)
    ·exact k3 y' g1 (by omega) z' f1 f2
  ·have hge:=of_decide_eq_false hb
   refine ifB_mk (fun e=>?_) (fun e=>h0 fun q=>?_)
   ·have e:atN w d h c x.2.1.1 x.2.1.2.1 x.2.1.2.2≠0:=by simp at e; omega
    have all:(p.2.2.2=0∨p.2.2.2=atN w d h c x.2.1.1 x.2.1.2.1 x.2.1.2.2)→liesP w d h c l x:=fun hc=>⟨hq,p,hp,hns,fun y' g1 g2 z' g3 g4=>k3 y' g1 (by omega) z' g3 (by omega),e,hc⟩
    refine ifB_mk (fun f=>h1 (all (.inl ?_))) (fun f=>?_)
    ·simp at f; omega
    ·by_cases g:p.2.2.2=atN w d h c x.2.1.1 x.2.1.2.1 x.2.1.2.2
     ·rw [show (((p.2.2.2:Nat):Int)==col)=true by rw [hcol,g]; simp]
      exact h1 (all (.inr g))
     ·rw [show (((p.2.2.2:Nat):Int)==col)=false by rw [hcol]; simp; omega]
      refine h0 fun q=>?_
      have:=(get q).2.2.2
      simp at f
      omega
   ·have:=(get q).2.2.1
    simp at e
    omega
 refine onNat_mk hxi (ptel hp ?_)
 refine ifB_mk (fun e=>ifB_mk (fun f=>h0 fun q=>(get q).1 ⟨e,by simpa using f⟩) (fun f=>?_)) (fun e=>?_)
 ·refine size103 (x:=x) hxi hp (onTup_tup (onCons_cons (onIntK_iv (onCons_cons (onIntK_iv (onNil_nil (at67 hs hu (onIntK_u8 ?_))))))))
  rw [← hsw,← hsd,← hcol]
  exact tail fun q=>by have:=q.2; simp at f; omega
 ·refine size103 (x:=x) hxi hp (onTup_tup (onCons_cons (onIntK_iv (onCons_cons (onIntK_iv (onNil_nil (at67 hs hu (onIntK_u8 ?_))))))))
  rw [← hsw,← hsd,← hcol]
  exact tail fun q=>by have:=q.1; simp [e] at this
theorem lda {cs:List Ld} {i:Nat} {x:Ld} (h:cs[i]? = some x):(ldl cs)[i]? = some (ldR x):=by simp [ldl,h]
theorem ldel1 {l:List Ld} {i:Nat} {x:Ld} {k:Int→Int→Int→Prop} (h:l[i]? = some x) (hk:k x.2.1.1 x.2.1.2.1 x.2.1.2.2):onSome (ldl l)[i]? fun row=>onCons (List.drop 1 row) fun u r=>onIntK IntKind.i64 u fun b=>onCons r fun u r=>onIntK IntKind.i64 u fun c=>onCons r fun u r=>onIntK IntKind.i64 u fun d=>k b c d :=
 onSome_mk (lda h) (onCons_cons (onIntK_iv (onCons_cons (onIntK_iv (onCons_cons (onIntK_iv hk))))))
def usedN (cs:List Ld) (i m:Nat):Nat:=(cs.take i).countP fun x=>decide (x.1=(m:Int))
theorem usedN_succ {cs:List Ld} {i m:Nat} {x:Ld} (h:cs[i]? = some x):usedN cs (i+1) m=usedN cs i m+if x.1=(m:Int) then 1 else 0:=by
 unfold usedN
 rw [List.take_add_one,h,List.countP_append]
 simp [List.countP_cons]
theorem usedN_le (cs:List Ld) (i m:Nat):usedN cs i m≤cs.length:=by
 unfold usedN
 have:=List.countP_le_length (p:=fun x:Ld=>decide (x.1=(m:Int))) (l:=cs.take i)
 rw [List.length_take] at this
 omega
def compAt (w d h:Int) (c:List Nat) (l:List Pt) (cs:List Ld) (i:Nat) (x:Ld):Prop:=liesP w d h c l x∧(∀ y,0<i→cs[i - 1]? = some y→ixI w d y.2.1<ixI w d x.2.1) ∧ ∀ p,l[x.1.toNat]? = some p→(usedN cs (i+1) x.1.toNat:Int)≤p.2.2.1
def compP (w d h:Int) (c:List Nat) (l:List Pt) (cs:List Ld):Prop:=(∀ i x,cs[i]? = some x→compAt w d h c l cs i x) ∧ ∀ i,i<c.length→c.getD i 0≠0→0≤byI l cs (cel w d i).1 (cel w d i).2.1 (cel w d i).2.2
theorem lies_ok {w d h:Int} {c:List Nat} {l:List Pt} {x:Ld} (hs:ShOK w d h c) (hpt:PtOK l) (h:liesP w d h c l x):LdOK l x:=by
 obtain ⟨⟨h1,h2,h3,h4⟩,p,hp,_⟩:=h
 have:=hs.1; have:=hs.2.1
 exact ⟨x.1.toNat,p,by omega,hp,hpt.2.1 _ p hp,by omega,by omega⟩
theorem tail54 {w d h:Int} {u:Nat} {c:List Nat} {l:List Pt} {sc:Nat} {cs:List Ld} {us:List Int} {i m:Nat} {x:Ld} {p:Pt} {A:Prop} {J:St→Prop} (hsc:sc=5) (hi:cs[i]? = some x) (hx:x.1=(m:Int)) (hm:m<us.length) (hp:l[m]? = some p) (hi' : i≤1000) (hu:us.getD m 0 ≥ 0∧us.getD m 0≤1000)
  (hA:us.getD m 0+1 > p.2.2.1→A) (hJ:us.getD m 0+1≤p.2.2.1→J (sh54a w d h u c l sc cs (us.set m (us.getD m 0+1)) (i+1))) :
  need (sc=5) (onSome (ldl cs)[i]? fun row=>onSome row[0]? fun v=>onIntK IntKind.i64 v fun n=>onNat n fun m=>need (m<us.length) (onSome (List.map (fun x=>[iv x]) us)[0+m]? fun row=>onSome row[0]? fun v=>onIntK IntKind.i64 v fun n_10=>onNat n fun m=>need (m<us.length) (onSome (List.map (fun x=>[iv x]) us)[0+m]? fun row=>guardB ((0+1).ble row.length) (need (sc=5) (onSome (ldl cs)[i]? fun row_1=>onSome row_1[0]? fun v=>onIntK IntKind.i64 v fun n=>onNat n fun m_1=>need (m_1<us.length) (onSome ((List.map (fun x=>[iv x]) us).set (0+m) (iv (IntKind.i64.wrap (n_10+(1:Int)))::(List.append []) (List.drop 1 row)))[0+m_1]? fun row_2=>onSome row_2[0]? fun v=>onIntK IntKind.i64 v fun n=>need (sc=5) (onSome (ldl cs)[i]? fun row_3=>onSome row_3[0]? fun v=>onIntK IntKind.i64 v fun n_11=>onNat n_11 fun m_2=>onSome (ptl l)[m_2]? fun row_4=>onSome row_4[2]? fun v=>onIntK IntKind.i64 v fun n_12=>ifB (decide (n > n_12)) A (J (St.mk (mkT [(1,V.lst 4 (ptl l)),(2,V.lst sc (ldl cs)),(3,V.ptr (Id.p 0) 0 0),(7,V.sl (Id.p 1) 0 us.length),(8,iv (IntKind.i64.wrap ((i:Int)+(1:Int))))]) (Hp.mk [(0,O.rows 4 false [[iv w,iv d,iv h,V.lst u (nb c)]]),(1,O.rows 1 true ((List.map (fun x=>[iv x]) us).set (0+m) (iv (IntKind.i64.wrap (n_10+(1:Int)))::(List.append []) (List.drop 1 row))))] 2 [])))))))))):=by
 have hat:(List.map (fun x=>[iv x]) us)[0+m]? = some [iv (us.getD m 0)]:=il_at hm
 have hw:IntKind.i64.wrap (us.getD m 0+1)=us.getD m 0+1:=wrapI (by omega) (by omega)
 have hset:(List.map (fun x=>[iv x]) us).set (0+m) (iv (us.getD m 0+1)::(List.append []) (List.drop 1 [iv (us.getD m 0)]))=il (us.set m (us.getD m 0+1)):=il_set
 have hat2:((List.map (fun x=>[iv x]) us).set (0+m) (iv (IntKind.i64.wrap (us.getD m 0+1))::(List.append []) (List.drop 1 [iv (us.getD m 0)])))[0+m]? = some [iv (us.getD m 0+1)]:=by
  rw [hw,hset,il_at (by rw [List.length_set]; exact hm)]
  simp [List.getD,hm]
 have hl:=lda hi
 refine need_mk ⟨hsc,onSome_mk hl (onSome_mk rfl (onIntK_iv (onNat_mk hx (need_mk ⟨hm,?_⟩))))⟩
 refine onSome_mk hat (onSome_mk rfl (onIntK_iv (onNat_mk hx (need_mk ⟨hm,?_⟩))))
 refine onSome_mk hat (guardB_mk rfl (need_mk ⟨hsc,?_⟩))
 refine onSome_mk hl (onSome_mk rfl (onIntK_iv (onNat_mk hx (need_mk ⟨hm,?_⟩))))
 refine onSome_mk hat2 (onSome_mk rfl (onIntK_iv (need_mk ⟨hsc,?_⟩)))
 refine onSome_mk hl (onSome_mk rfl (onIntK_iv (onNat_mk hx (onSome_mk (ptat hp) (onSome_mk rfl (onIntK_iv ?_))))))
 refine ifB_mk (fun hb=>hA (of_decide_eq_true hb)) (fun hb=>?_)
 have hJ:=hJ (by have:=of_decide_eq_false hb; omega)
 unfold sh54a at hJ
 rw [List.length_set] at hJ
 rw [hw,hset,wrapI (n:=(i:Int)+1) (by omega) (by omega)]
 exact hJ
theorem comp54 {w d h:Int} {u:Nat} {c:List Nat} {l:List Pt} {sc:Nat} {cs:List Ld} {R:V→Prop} (hs:ShOK w d h c) (hu:u=1∨c=[]) (hpt:PtOK l) (hsc:sc=5∨cs=[]) (hcs:cs.length≤900) (h1:compP w d h c l cs→R (bv true)) (h0 : ¬ compP w d h c l cs→R (bv false)):K0G Tryd.prog glX 54 [.agg [iv w,iv d,iv h,.lst u (nb c)],.lst 4 (ptl l),.lst sc (ldl cs)] R:=by
 have hw1:=hs.1; have hd1:=hs.2.1; have hh1:=hs.2.2.1
 have hlen:=hs.2.2.2.1
 have sz:=sizes hw1 hd1 hh1
 have hl:=hpt.1
 refine K0_of_WY0 hmX hcMo 3000 Tryd.func54 (see (p:=need ((ptl l).length≤(ptl l).length) (need (8 * (ptl l).length≤140737488355328) (need ((ptl l).length≤9223372036854775807) (La 0 [(1:Tmp),(2:Tmp),(3:Tmp),(7:Tmp),(8:Tmp)] (WY Tryd.prog cfM 2994 (Env.mk (Bs.mk 0 []) 0 none 114 54 0) (cdAt [1,1,0,1,0,0] (bodyOf Tryd.f54))) (Qblk 0 (Qthen (WY Tryd.prog cfM 2997 (Env.mk (Bs.mk 0 []) 0 none 114 54 0) (cdAt [1,1,1] (bodyOf Tryd.f54)) (QendX Tryd.prog Tryd.f54 fun v h=>R (frzW h v))) (QendX Tryd.prog Tryd.f54 fun v h=>R (frzW h v)))) (St.mk (mkT [(1,V.lst 4 (ptl l)),(2,V.lst sc (ldl cs)),(3,V.ptr (Id.p 0) 0 0),(7,V.sl (Id.p 1) 0 (ptl l).length),(8,iv (0:Int))]) (Hp.mk [(0,O.rows 4 false [[iv w,iv d,iv h,V.lst u (nb c)]]),(1,O.rows 1 true (List.replicate (ptl l).length [iv (0:Int)]))] 2 [])))))) (by kernel_rfl) ?_)
 rw [ptl_length]
 refine need_mk ⟨Nat.le_refl _,need_mk ⟨by omega,need_mk ⟨by omega,?_⟩⟩⟩
 refine La.of (σ:=List Int×Nat) (fun s=>sh54a w d h u c l sc cs s.1 s.2) (fun s=>s.2≤cs.length∧s.1.length=l.length∧(∀ m,m<l.length→s.1.getD m 0=(usedN cs s.2 m:Int)) ∧ ∀ j x,j<s.2→cs[j]? = some x→compAt w d h c l cs j x) (fun s=>cs.length - s.2) (List.replicate l.length 0,0)
  (by unfold sh54a; simp only [List.length_replicate,List.map_replicate]; kernel_rfl) ⟨Nat.zero_le _,by simp,fun m hm=>by simp [usedN,List.getD,hm],fun j x hj=>by omega⟩ ?_
 rintro ⟨us,i⟩ ⟨k1,k2,k3,k4⟩ J hJ
 simp only at k1 k2 k3 k4
 refine see (p:=ifB (decide ((↑i:Int)<(↑(ldl cs).length:Int))) (need (sc=5) (onSome (ldl cs)[i]? fun row=>onCons (List.drop 0 row) fun u_1 r=>onIntK IntKind.i64 u_1 fun n=>onCons r fun u_2 r=>onIntK IntKind.i64 u_2 fun n_1=>onCons r fun u_3 r=>onIntK IntKind.i64 u_3 fun n_2=>onCons r fun u_4 r=>onIntK IntKind.i64 u_4 fun n_3=>onCons r fun u_5 r=>onBool u_5 fun b=>K0G Tryd.prog glX 81 [V.agg [iv w,iv d,iv h,V.lst u (nb c)],V.lst 4 (ptl l),V.agg [iv n,iv n_1,iv n_2,iv n_3,bv b]] fun v=>onBool v fun b=>ifB (!b) (R (bv false)) (ifB (decide ((↑i:Int) > (0:Int))) (need (sc=5) (onSome (ldl cs)[i]? fun row=>onCons (List.drop 1 row) fun u_6 r=>onIntK IntKind.i64 u_6 fun n=>onCons r fun u_7 r=>onIntK IntKind.i64 u_7 fun n_4=>onCons r fun u_8 r=>onIntK IntKind.i64 u_8 fun n_5=>onNat (IntKind.i64.wrap ((↑i:Int) - (1:Int))) fun m=>need (sc=5) (onSome (ldl cs)[m]? fun row=>onCons (List.drop 1 row) fun u_9 r=>onIntK IntKind.i64 u_9 fun n_6=>onCons r fun u_10 r=>onIntK IntKind.i64 u_10 fun n_7=>onCons r fun u_11 r=>onIntK IntKind.i64 u_11 fun n_8=>K0G Tryd.prog glX 82 [V.agg [iv w,iv d,iv h,V.lst u (nb c)],V.agg [iv n,iv n_4,iv n_5]] fun v=>onIntK IntKind.i64 v fun n=>K0G Tryd.prog glX 82 [V.agg [iv w,iv d,iv h,V.lst u (nb c)],V.agg [iv n_6,iv n_7,iv n_8]] fun v=>onIntK IntKind.i64 v fun n_9=>ifB (decide (n≤n_9)) (R (bv false)) (need (sc=5) (onSome (ldl cs)[i]? fun row=>onSome row[0]? fun v=>onIntK IntKind.i64 v fun n=>onNat n fun m=>need (m<us.length) (onSome (List.map (fun x=>[iv x]) us)[0+m]? fun row=>onSome row[0]? fun v=>onIntK IntKind.i64 v fun n_10=>onNat n fun m=>need (m<us.length) (onSome (List.map (fun x=>[iv x]) us)[0+m]? fun row=>guardB ((0+1).ble row.length) (need (sc=5) (onSome (ldl cs)[i]? fun row_1=>onSome row_1[0]? fun v=>onIntK IntKind.i64 v fun n=>onNat n fun m_1=>need (m_1<us.length) (onSome ((List.map (fun x=>[iv x]) us).set (0+m) (iv (IntKind.i64.wrap (n_10+(1:Int)))::(List.append []) (List.drop 1 row)))[0+m_1]? fun row_2=>onSome row_2[0]? fun v=>onIntK IntKind.i64 v fun n=>need (sc=5) (onSome (ldl cs)[i]? fun row_3=>onSome row_3[0]? fun v=>onIntK IntKind.i64 v fun n_11=>onNat n_11 fun m_2=>onSome (ptl l)[m_2]? fun row_4=>onSome row_4[2]? fun v=>onIntK IntKind.i64 v fun n_12=>ifB (decide (n > n_12)) (R (bv false)) (J (St.mk (mkT [(1,V.lst 4 (ptl l)),(2,V.lst sc (ldl cs)),(3,V.ptr (Id.p 0) 0 0),(7,V.sl (Id.p 1) 0 us.length),(8,iv (IntKind.i64.wrap ((↑i:Int)+(1:Int))))]) (Hp.mk [(0,O.rows 4 false [[iv w,iv d,iv h,V.lst u (nb c)]]),(1,O.rows 1 true ((List.map (fun x=>[iv x]) us).set (0+m) (iv (IntKind.i64.wrap (n_10+(1:Int)))::(List.append []) (List.drop 1 row))))] 2 [])))))))))))))) (need (sc=5) (onSome (ldl cs)[i]? fun row=>onSome row[0]? fun v=>onIntK IntKind.i64 v fun n=>onNat n fun m=>need (m<us.length) (onSome (List.map (fun x=>[iv x]) us)[0+m]? fun row=>onSome row[0]? fun v=>onIntK IntKind.i64 v fun n_4=>onNat n fun m=>need (m<us.length) (onSome (List.map (fun x=>[iv x]) us)[0+m]? fun row=>guardB ((0+1).ble row.length) (need (sc=5) (onSome (ldl cs)[i]? fun row_1=>onSome row_1[0]? fun v=>onIntK IntKind.i64 v fun n=>onNat n fun m_1=>need (m_1<us.length) (onSome ((List.map (fun x=>[iv x]) us).set (0+m) (iv (IntKind.i64.wrap (n_4+(1:Int)))::(List.append []) (List.drop 1 row)))[0+m_1]? fun row_2=>onSome row_2[0]? fun v=>onIntK IntKind.i64 v fun n=>need (sc=5) (onSome (ldl cs)[i]? fun row_3=>onSome row_3[0]? fun v=>onIntK IntKind.i64 v fun n_5=>onNat n_5 fun m_2=>onSome (ptl l)[m_2]? fun row_4=>onSome row_4[2]? fun v=>onIntK IntKind.i64 v fun n_6=>ifB (decide (n > n_6)) (R (bv false)) (J (St.mk (mkT [(1,V.lst 4 (ptl l)),(2,V.lst sc (ldl cs)),(3,V.ptr (Id.p 0) 0 0),(7,V.sl (Id.p 1) 0 us.length),(8,iv (IntKind.i64.wrap ((↑i:Int)+(1:Int))))]) (Hp.mk [(0,O.rows 4 false [[iv w,iv d,iv h,V.lst u (nb c)]]),(1,O.rows 1 true ((List.map (fun x=>[iv x]) us).set (0+m) (iv (IntKind.i64.wrap (n_4+(1:Int)))::(List.append []) (List.drop 1 row))))] 2 [])))))))))))))) (La 0 [(1:Tmp),(2:Tmp),(3:Tmp),(9:Tmp)] (WY Tryd.prog cfM 2993 (Env.mk (Bs.mk 0 []) 0 none 114 54 2) (cdAt [1,1,1,0,1,0,0] (bodyOf Tryd.f54))) (Qblk 2 (Qthen (WY Tryd.prog cfM 2996 (Env.mk (Bs.mk 0 []) 0 none 114 54 0) (cdAt [1,1,1,1] (bodyOf Tryd.f54)) (QendX Tryd.prog Tryd.f54 fun v h=>R (frzW h v))) (QendX Tryd.prog Tryd.f54 fun v h=>R (frzW h v)))) (St.mk (mkT [(1,V.lst 4 (ptl l)),(2,V.lst sc (ldl cs)),(3,V.ptr (Id.p 0) 0 0),(9,iv (0:Int))]) (Hp.mk [(0,O.rows 4 false [[iv w,iv d,iv h,V.lst u (nb c)]])] 1 [])))) (by kernel_rfl) ?_
 refine ifB_mk (fun hb=>?_) (fun hb=>?_) <;> rw [ldl_length] at hb
 ·have hlt:i<cs.length:=by have:=of_decide_eq_true hb; omega
  obtain ⟨x,hi⟩:=getI hlt
  have hsc5:sc=5:=hsc.resolve_right (by rintro rfl; simp at hlt)
  refine need_mk ⟨hsc5,ldel hi (lies81 (x:=x) hs hu hpt (fun hlie=>onBool_bv (ifB_f rfl ?_)) (fun hlie=>onBool_bv (ifB_t rfl (h0 fun q=>hlie (q.1 i x hi).1))))⟩
  have hx1:x.1=(x.1.toNat:Int):=by have:=hlie.1.1; omega
  have hxl:x.1.toNat<l.length:=by have:=hlie.1.1; omega
  obtain ⟨p,hp⟩:=getI hxl
  have hus:=usedN_succ (m:=x.1.toNat) hi
  rw [if_pos hx1] at hus
  have hu1:=k3 _ hxl
  have hule:=usedN_le cs i x.1.toNat
  have fin:(∀ y,0<i→cs[i - 1]? = some y→ixI w d y.2.1<ixI w d x.2.1)→us.getD x.1.toNat 0+1≤p.2.2.1→J (sh54a w d h u c l sc cs (us.set x.1.toNat (us.getD x.1.toNat 0+1)) (i+1)):=fun g1 g2=>by
   refine hJ (_,i+1) ⟨hlt,by simp only [List.length_set]; exact k2,fun m hm=>?_,fun j y hj hy=>?_⟩ (by simp only; omega)
   ·simp only
    rw [usedN_succ hi,List.getD_eq_getElem?_getD,List.getElem?_set]
    by_cases e:x.1.toNat=m
    ·rw [if_pos e,if_pos (by omega),if_pos (by omega),hu1,e]
     simp
    ·rw [if_neg e,if_neg (by omega),← List.getD_eq_getElem?_getD,k3 m hm]
     simp
   ·by_cases e:j=i
    ·subst e
     rw [hi] at hy
     cases hy
     refine ⟨hlie,g1,fun p' hp' => ?_⟩
     rw [hp] at hp'
     cases hp'
     rw [hus]
     omega
    ·exact k4 j y (by omega) hy
  have bad:us.getD x.1.toNat 0+1 > p.2.2.1→R (bv false):=fun g=>h0 fun q=>by
   have:=(q.1 i x hi).2.2 p hp
   rw [hus] at this
   omega
  refine ifB_mk (fun hb=>?_) (fun hb=>?_)
  ·have hi0:0<i:=by have:=of_decide_eq_true hb; omega
   obtain ⟨y,hy⟩:=getI (l:=cs) (k:=i - 1) (by omega)
   have hly:=(k4 (i - 1) y (by omega) hy).1
   refine need_mk ⟨hsc5,ldel1 hi (onNat_mk (m:=i - 1) ?_ (need_mk ⟨hsc5,ldel1 hy ?_⟩))⟩
   ·rw [wrapI (by omega) (by omega)]; omega
   refine index82 (t:=x.2.1) hs hlie.1.2 (onIntK_iv (index82 (t:=y.2.1) hs hly.1.2 (onIntK_iv (ifB_mk (fun e=>h0 fun q=>?_) (fun e=>?_)))))
   ·have:=(q.1 i x hi).2.1 y hi0 hy
    have e:=of_decide_eq_true e
    omega
   ·have e:=of_decide_eq_false e
    exact tail54 hsc5 hi hx1 (by omega) hp (by omega) (by omega) bad (fin fun y' _ hy' => by rw [hy] at hy'; cases hy'; omega)
  ·have hi0 : ¬ 0<i:=by have:=of_decide_eq_false hb; omega
   exact tail54 hsc5 hi hx1 (by omega) hp (by omega) (by omega) bad (fin fun y' h' _=>absurd h' hi0)
 ·have hge:i=cs.length:=by have:=of_decide_eq_false hb; omega
  have hall : ∀ j x,cs[j]? = some x→compAt w d h c l cs j x:=fun j x hj=>k4 j x (by have:=(List.getElem?_eq_some_iff.1 hj).1; omega) hj
  have hld : ∀ x∈cs,LdOK l x:=fun x hx=>by
   obtain ⟨j,hj⟩:=List.getElem?_of_mem hx
   exact lies_ok hs hpt (hall j x hj).1
  refine La.of (σ:=Nat) (fun i=>sh54b w d h u c l sc cs i) (fun i=>i≤c.length ∧ ∀ j,j<i→c.getD j 0≠0→0≤byI l cs (cel w d j).1 (cel w d j).2.1 (cel w d j).2.2) (fun i=>c.length - i) 0 (by kernel_rfl) ⟨Nat.zero_le _,fun j hj=>by omega⟩ ?_
  clear hge hb k1 k2 k3 k4 hJ J us i
  rintro i ⟨m1,m2⟩ J2 hJ2
  have J:St→Prop:=J2
  refine see (p:=ifB (decide ((↑i:Int)<(↑(nb c).length:Int))) (need (u=1) (onSome (nb c)[i]? fun row=>onSome row[0]? fun v=>onIntK IntKind.u8 v fun n=>ifB (n != (0:Int)) (need (w≠(0:Int)) (need (w≠(0:Int)) (need (d≠(0:Int)) (need (w≠(0:Int)) (need (d≠(0:Int)) (K0G Tryd.prog glX 83 [V.lst 4 (ptl l),V.lst sc (ldl cs),iv ((↑i:Int).tmod w),iv ((IntKind.i64.wrap ((↑i:Int).tdiv w)).tmod d),iv (IntKind.i64.wrap ((IntKind.i64.wrap ((↑i:Int).tdiv w)).tdiv d))] fun v=>onIntK IntKind.i64 v fun n=>ifB (decide (n<(0:Int))) (R (bv false)) (J2 (St.mk (mkT [(1,V.lst 4 (ptl l)),(2,V.lst sc (ldl cs)),(3,V.ptr (Id.p 0) 0 0),(9,iv (IntKind.i64.wrap ((↑i:Int)+(1:Int))))]) (Hp.mk [(0,O.rows 4 false [[iv w,iv d,iv h,V.lst u (nb c)]])] 1 []))))))))) (J2 (St.mk (mkT [(1,V.lst 4 (ptl l)),(2,V.lst sc (ldl cs)),(3,V.ptr (Id.p 0) 0 0),(9,iv (IntKind.i64.wrap ((↑i:Int)+(1:Int))))]) (Hp.mk [(0,O.rows 4 false [[iv w,iv d,iv h,V.lst u (nb c)]])] 1 []))))) (R (bv true))) (by kernel_rfl) ?_
  refine ifB_mk (fun hb=>?_) (fun hb=>?_) <;> rw [nb_length] at hb
  ·have hlt:i<c.length:=by have:=of_decide_eq_true hb; omega
   have hci:c[i]? = some (c.getD i 0):=by simp [List.getD,hlt]
   have hi256:i<256:=by omega
   refine need_mk ⟨hu.resolve_right (by rintro rfl; simp at hlt),nbel hci ?_⟩
   rw [wrapI (n:=(i:Int)+1) (by omega) (by omega)]
   have q1:0≤(i:Int).tdiv w∧(i:Int).tdiv w≤i:=by
    rw [Int.tdiv_eq_ediv_of_nonneg (by omega)]
    exact ⟨Int.ediv_nonneg (by omega) (by omega),Int.ediv_le_self _ (by omega)⟩
   have q2:0≤((i:Int).tdiv w).tdiv d∧((i:Int).tdiv w).tdiv d≤(i:Int).tdiv w:=by
    rw [Int.tdiv_eq_ediv_of_nonneg (a:=(i:Int).tdiv w) (by omega)]
    exact ⟨Int.ediv_nonneg (by omega) (by omega),Int.ediv_le_self _ (by omega)⟩
   refine ifB_mk (fun hn=>?_) (fun hn=>?_)
   ·have hn:c.getD i 0≠0:=fun e=>by rw [e] at hn; simp at hn
    refine need_mk ⟨by omega,need_mk ⟨by omega,need_mk ⟨by omega,need_mk ⟨by omega,need_mk ⟨by omega,?_⟩⟩⟩⟩⟩
    rw [wrapI (n:=(i:Int).tdiv w) (by omega) (by omega),wrapI (n:=((i:Int).tdiv w).tdiv d) (by omega) (by omega)]
    refine by83 hsc (by omega) hld (onIntK_iv (ifB_mk (fun e=>h0 fun q=>?_) (fun e=>?_)))
    ·have:=q.2 i hlt hn
     have e:=of_decide_eq_true e
     simp only [cel] at this
     omega
    ·have e:=of_decide_eq_false e
     refine hJ2 (i+1) ⟨hlt,fun j hj hc=>?_⟩ (by omega)
     by_cases g:j=i
     ·subst g
      simp only [cel]
      omega
     ·exact m2 j (by omega) hc
   ·have hn:c.getD i 0=0:=by have:=(bne_eq_false_iff_eq (a:=((c.getD i 0:Nat):Int)) (b:=0)).1 hn; omega
    refine hJ2 (i+1) ⟨hlt,fun j hj hc=>?_⟩ (by omega)
    by_cases g:j=i
    ·subst g; exact absurd hn hc
    ·exact m2 j (by omega) hc
  ·have hge:=of_decide_eq_false hb
   exact h1 ⟨hall,fun j hj hc=>m2 j (by omega) hc⟩
set_option maxRecDepth 100000
abbrev Br:=Int×C3×Nat×Nat
def brR (x:Br):List V:=[iv x.1,iv x.2.1.1,iv x.2.1.2.1,iv x.2.1.2.2,u8v (x.2.2.1:Int),u8v (x.2.2.2:Int)]
def brl (c:List Br):List (List V):=c.map brR
noncomputable def sh31n (w d h:Int) (u:Nat) (c:List Nat) (l:List Pt) (L:List C3) (nE pE:List (V×V)) (bg:List (List V)) (ws:Nat) (wr ps:List (List V)) (k:Nat):St:=⟨mkT [(6,V.ptr (Id.p 0) 0 0),(8,V.ptr (Id.p 1) 0 0),(11,V.ptr (Id.p 2) 0 0),(26,V.lst 7 ps),(27,iv (ps.length:Int)),(28,iv (k:Int))],⟨[(0,O.rows 1 false [[nilS]]),(1,O.rows 10 false [[iv w,iv d,iv h,V.lst u (nb c),V.lst 4 (ptl l),V.lst 3 (fullR L),V.fmp nE,V.fmp pE,V.lst 1 bg,V.lst ws wr]]),(2,O.rows 1 false [[nilS]])],3,[]⟩⟩
noncomputable def sh31s (w d h:Int) (u:Nat) (c:List Nat) (l:List Pt) (L:List C3) (nE pE:List (V×V)) (bg:List (List V)) (ws:Nat) (wr ps:List (List V)) (bs:List Br) (k:Nat):St:=⟨mkT [(6,V.ptr (Id.p 0) 0 0),(8,V.ptr (Id.p 1) 0 0),(11,V.ptr (Id.p 2) 0 0),(26,V.lst 7 ps),(27,iv (ps.length:Int)),(28,iv (k:Int))],⟨[(0,O.rows 1 false [[nilS]]),(1,O.rows 10 false [[iv w,iv d,iv h,V.lst u (nb c),V.lst 4 (ptl l),V.lst 3 (fullR L),V.fmp nE,V.fmp pE,V.lst 1 bg,V.lst ws wr]]),(2,O.rows 1 false [[V.sl (Id.p 3) 0 bs.length]]),(3,O.rows 6 true (brl bs))],4,[]⟩⟩
noncomputable def sh32n (w d h:Int) (u:Nat) (c:List Nat) (l:List Pt) (sc:Nat) (cs:List Ld) (k:Nat):St:=⟨mkT [(1,V.lst 4 (ptl l)),(2,V.lst sc (ldl cs)),(3,V.ptr (Id.p 0) 0 0),(6,V.ptr (Id.p 1) 0 0),(9,V.ptr (Id.p 2) 0 0),(10,iv (k:Int))],⟨[(0,O.rows 4 false [[iv w,iv d,iv h,V.lst u (nb c)]]),(1,O.rows 1 false [[nilS]]),(2,O.rows 1 false [[nilS]])],3,[]⟩⟩
noncomputable def sh32s (w d h:Int) (u:Nat) (c:List Nat) (l:List Pt) (sc:Nat) (cs:List Ld) (bs:List Br) (k:Nat):St:=⟨mkT [(1,V.lst 4 (ptl l)),(2,V.lst sc (ldl cs)),(3,V.ptr (Id.p 0) 0 0),(6,V.ptr (Id.p 1) 0 0),(9,V.ptr (Id.p 2) 0 0),(10,iv (k:Int))],⟨[(0,O.rows 4 false [[iv w,iv d,iv h,V.lst u (nb c)]]),(1,O.rows 1 false [[nilS]]),(2,O.rows 1 false [[V.sl (Id.p 3) 0 bs.length]]),(3,O.rows 6 true (brl bs))],4,[]⟩⟩
set_option maxRecDepth 10000
theorem check21 {w d h:Int} {u:Nat} {c:List Nat} {l:List Pt} {sc:Nat} {cs:List Ld} {R:V→Prop} (hu:u=1∨c=[]) (hsc:sc=5∨cs=[]) (hcs:cs.length≤900)
  (h70 : ¬ ShOK w d h c→R (iv 70)) (h71:ShOK w d h c → ¬ PtOK l→R (iv 71)) (h8:ShOK w d h c→PtOK l → ¬ compP w d h c l cs→R (iv 8)) (h0:ShOK w d h c→PtOK l→compP w d h c l cs→R (iv 0)) :
  K0G Tryd.prog glX 21 [.agg [iv w,iv d,iv h,.lst u (nb c)],.lst 4 (ptl l),.lst sc (ldl cs)] R:=by
 refine K0_of_WY0 hmX hcMo 3000 Tryd.func21 (see (p:=K0G Tryd.prog glX 53 [V.agg [iv w,iv d,iv h,V.lst u (nb c)],V.lst 4 (ptl l)] fun v=>onIntK IntKind.i64 v fun n=>ifB (n != (0:Int)) (R (iv n)) (K0G Tryd.prog glX 54 [V.agg [iv w,iv d,iv h,V.lst u (nb c)],V.lst 4 (ptl l),V.lst sc (ldl cs)] fun v=>onBool v fun b=>ifB (!b) (R (iv (8:Int))) (R (iv (0:Int))))) (by kernel_rfl) ?_)
 exact asked37 hu (fun hs hpt=>onIntK_iv (ifB_f rfl (comp54 hs hu hpt hsc hcs (fun q=>onBool_bv (ifB_f rfl (h0 hs hpt q))) (fun q=>onBool_bv (ifB_t rfl (h8 hs hpt q)))))) (fun q=>onIntK_iv (ifB_t rfl (h70 q))) (fun q q' => onIntK_iv (ifB_t rfl (h71 q q')))
def dpl (l:List Pt) (i:Int):Int:=match l[i.toNat]? with
 | some p=>p.2.1
 | none=>0
def brk (w d h:Int) (c:List Nat) (l:List Pt) (x:Ld):Br:=(x.1,(if x.2.2 then x.2.1.1+(dpl l x.1 - 1) else x.2.1.1,x.2.1.2.1,x.2.1.2.2),if x.2.2 then 1 else 0,atN w d h c x.2.1.1 x.2.1.2.1 x.2.1.2.2)
def brV (bs:List Br):V:=match bs with
 | []=>nilS
 | _ => .lst 6 (brl bs)
theorem brick66 {w d h:Int} {u:Nat} {c:List Nat} {l:List Pt} {L:List C3} {nE pE:List (V×V)} {bg:List (List V)} {ws:Nat} {wr:List (List V)} {i:Nat} {t:C3} {b:Bool} {s tc:Nat} {p:Pt} {R:V→Prop} (hs:ShOK w d h c) (hu:u=1∨c=[]) (hl:l[i]? = some p) (hp:POK p) (ht:(0≤t.1∧t.1<w)∧(0≤t.2.1∧t.2.1<d)∧0≤t.2.2∧t.2.2<h)
  (hR:R (.agg (brR (brk w d h c l ((i:Int),t,b))))):K0G Tryd.prog glX 66 [bdX w d h u c l L nE pE bg ws wr,.agg [iv (i:Int),iv t.1,iv t.2.1,iv t.2.2,bv b,u16v s,u16v tc]] R:=by
 have hw1:=hs.1; have hd1:=hs.2.1; have hh1:=hs.2.2.1
 have hlen:=hs.2.2.2.1
 have sz:=sizes hw1 hd1 hh1
 have hhd:h * d≤4 * 8:=Int.mul_le_mul hh1.2 hd1.2 (by omega) (by omega)
 refine K0_of_WY0 hmX hcMo 3000 Tryd.func66 (see (p:=onNat (IntKind.i64.wrap (IntKind.i64.wrap (IntKind.i64.wrap (IntKind.i64.wrap (t.2.2 * d)+t.2.1) * w)+t.1)) fun m=>need (u=1) (onSome (nb c)[m]? fun row=>onSome row[0]? fun v=>onIntK IntKind.u8 v fun n=>ifB b (onSome (ptl l)[i]? fun row=>onSome row[1]? fun v=>onIntK IntKind.i64 v fun n_1=>R (V.agg [iv (↑i:Int),iv (IntKind.i64.wrap (t.1+IntKind.i64.wrap (n_1 - (1:Int)))),iv t.2.1,iv t.2.2,V.raw (Value.int IntKind.u8 (1:Int)),V.raw (Value.int IntKind.u8 n)])) (R (V.agg [iv (↑i:Int),iv t.1,iv t.2.1,iv t.2.2,V.raw (Value.int IntKind.u8 (0:Int)),V.raw (Value.int IntKind.u8 n)])))) (by kernel_rfl) ?_)
 have ix:=ix_le ht.1 ht.2.1 ht.2.2
 have hat:atN w d h c t.1 t.2.1 t.2.2=c.getD ((t.2.2 * d+t.2.1) * w+t.1).toNat 0:=by unfold atN; rw [if_pos ht]
 have hdp:dpl l (i:Int)=p.2.1:=by unfold dpl; rw [Int.toNat_natCast,hl]
 unfold brk at hR
 simp only at hR
 rw [hat,hdp] at hR
 generalize hA:t.2.2 * d=A at *
 rw [wrapI (n:=A) (by omega) (by omega),wrapI (n:=A+_) (by omega) (by omega)]
 generalize hB:(A+t.2.1) * w=B at *
 rw [wrapI (n:=B) (by omega) (by omega),wrapI (by omega) (by omega)]
 have hm:(B+t.1).toNat<c.length:=by omega
 refine onNat_mk (m:=(B+t.1).toNat) (by omega) (need_mk ⟨hu.resolve_right (by rintro rfl; simp at hm),nbel (x:=c.getD (B+t.1).toNat 0) (by simp [List.getD,hm]) ?_⟩)
 cases b with
 | false=>exact hR
 | true =>
  have h2:=hp.2.1
  refine onSome_mk (ptat hl) (onSome_mk rfl (onIntK_iv ?_))
  rw [wrapI (n:=p.2.1 - 1) (by omega) (by omega),wrapI (n:=t.1+(p.2.1 - 1)) (by omega) (by omega)]
  exact hR
def ldP (y:Pc):Ld:=((y.1:Int),y.2.1,y.2.2.1)
theorem pcel {pl:List Pc} {k:Nat} {y:Pc} {K:Int→Int→Int→Int→Bool→Int→Int→Prop} (h:pl[k]? = some y) (hk:K y.1 y.2.1.1 y.2.1.2.1 y.2.1.2.2 y.2.2.1 y.2.2.2.1 y.2.2.2.2):onSome (pl.map pcR)[k]? fun row=>onCons (List.drop 0 row) fun u_7 r=>onIntK IntKind.i64 u_7 fun n=>onCons r fun u_7 r=>onIntK IntKind.i64 u_7 fun n_4=>onCons r fun u_8 r=>onIntK IntKind.i64 u_8 fun n_5=>onCons r fun u_9 r=>onIntK IntKind.i64 u_9 fun n_6=>onCons r fun u_10 r=>onBool u_10 fun b=>onCons r fun u_11 r=>onIntK IntKind.u16 u_11 fun n_7=>onCons r fun u_12 r=>onIntK IntKind.u16 u_12 fun n_8=>K n n_4 n_5 n_6 b n_7 n_8 :=
 onSome_mk (by simp [h]:(pl.map pcR)[k]? = some (pcR y)) hk
theorem take_brl (bs:List Br):List.take bs.length (brl bs)=brl bs:=by rw [List.take_of_length_le (by simp [brl])]
theorem sub_brl (bs:List Br):sub (brl bs) 0 bs.length=brl bs:=by unfold sub; rw [List.drop_zero,take_brl]
noncomputable def shB31 (w d h:Int) (u:Nat) (c:List Nat) (l:List Pt) (L:List C3) (nE pE:List (V×V)) (bg:List (List V)) (ws:Nat) (wr ps:List (List V)) (bs:List Br) (k:Nat):St:=match bs with
 | []=>sh31n w d h u c l L nE pE bg ws wr ps k
 | x::q=>sh31s w d h u c l L nE pE bg ws wr ps (x::q) k
theorem shB31_s {w d h:Int} {u:Nat} {c:List Nat} {l:List Pt} {L:List C3} {nE pE:List (V×V)} {bg:List (List V)} {ws:Nat} {wr ps:List (List V)} {bs:List Br} {k:Nat} (h0:bs≠[]):shB31 w d h u c l L nE pE bg ws wr ps bs k=sh31s w d h u c l L nE pE bg ws wr ps bs k:=by
 cases bs with
 | nil=>exact absurd rfl h0
 | cons x q=>rfl
theorem loop31 {w d h:Int} {u:Nat} {c:List Nat} {l:List Pt} {sc:Nat} {cs:List Ld} {R:V→Prop} {L:List C3} {nE pE:List (V×V)} {bg:List (List V)} {ws:Nat} {wr ps:List (List V)} {pl:List Pc} (hs:ShOK w d h c) (hu:u=1∨c=[]) (hpt:PtOK l) (hps:ps=pl.map pcR) (hpl:pl.length≤1000) (hin : ∀ y∈pl,y.1<l.length∧(0≤y.2.1.1∧y.2.1.1<w)∧(0≤y.2.1.2.1∧y.2.1.2.1<d)∧0≤y.2.1.2.2∧y.2.1.2.2<h)
  (hR:R (.tup [.agg [brV (pl.map fun y=>brk w d h c l (ldP y))],iv 0])):La 0 [(6:Tmp),(8:Tmp),(11:Tmp),(26:Tmp),(27:Tmp),(28:Tmp),(6000000:Tmp)] (WY Tryd.prog cfM 2992 (Env.mk (Bs.mk 0 []) 0 none 42 31 0) (cdAt [1,1,1,1,0,1,0,0] (bodyOf Tryd.f31))) (Qblk 0 (Qthen (WY Tryd.prog cfM 2995 (Env.mk (Bs.mk 0 []) 0 none 42 31 0) (cdAt [1,1,1,1,1] (bodyOf Tryd.f31)) (QendX Tryd.prog Tryd.f31 fun v h=>R (frzW h v))) (QendX Tryd.prog Tryd.f31 fun v h=>R (frzW h v)))) (sh31n w d h u c l L nE pE bg ws wr ps 0):=by
 refine La.of (σ:=List Br×Nat) (fun s=>shB31 w d h u c l L nE pE bg ws wr ps s.1 s.2) (fun s=>s.2≤pl.length∧s.1=(pl.take s.2).map fun y=>brk w d h c l (ldP y)) (fun s=>pl.length - s.2) ([],0) (by kernel_rfl) ⟨Nat.zero_le _,rfl⟩ ?_
 rintro ⟨bs,k⟩ ⟨k1,k2⟩ J hJ
 simp only at k1 k2
 have hbl:bs.length=k:=by rw [k2,List.length_map,List.length_take]; omega
 have hpsl:ps.length=pl.length:=by rw [hps,List.length_map]
 have next : ∀ y,pl[k]? = some y→bs++[brk w d h c l (ldP y)]=(pl.take (k+1)).map fun y=>brk w d h c l (ldP y):=fun y hy=>by rw [List.take_add_one,hy,k2]; simp
 have fin : ¬ k<pl.length→R (.tup [.agg [brV bs],iv 0]):=fun q=>by
  rw [List.take_of_length_le (by omega)] at k2
  rw [k2]; exact hR
 cases bs with
 | nil =>
  show _
  refine see (p:=ifB (decide ((↑k:Int)<(↑ps.length:Int))) (onSome ps[k]? fun row=>onCons (List.drop 0 row) fun u_1 r=>onIntK IntKind.i64 u_1 fun n=>onCons r fun u_2 r=>onIntK IntKind.i64 u_2 fun n_1=>onCons r fun u_3 r=>onIntK IntKind.i64 u_3 fun n_2=>onCons r fun u_4 r=>onIntK IntKind.i64 u_4 fun n_3=>onCons r fun u_5 r=>onBool u_5 fun b=>onCons r fun u_6 r=>onIntK IntKind.u16 u_6 fun n_4=>onCons r fun u_7 r=>onIntK IntKind.u16 u_7 fun n_5=>K0G Tryd.prog glX 66 [V.agg [iv w,iv d,iv h,V.lst u (nb c),V.lst 4 (ptl l),V.lst 3 (fullR L),V.fmp nE,V.fmp pE,V.lst 1 bg,V.lst ws wr],V.agg [iv n,iv n_1,iv n_2,iv n_3,bv b,V.raw (Value.int IntKind.u16 n_4),V.raw (Value.int IntKind.u16 n_5)]] fun v=>onAgg v fun cs=>onCons cs fun u_8 r=>onIntK IntKind.i64 u_8 fun n=>onCons r fun u_9 r=>onIntK IntKind.i64 u_9 fun n_6=>onCons r fun u_10 r=>onIntK IntKind.i64 u_10 fun n_7=>onCons r fun u_11 r=>onIntK IntKind.i64 u_11 fun n_8=>onCons r fun u_12 r=>onIntK IntKind.u8 u_12 fun n_9=>onCons r fun u_13 r=>onIntK IntKind.u8 u_13 fun n_10=>onNil r (J (St.mk (mkT [(6,V.ptr (Id.p 0) 0 0),(8,V.ptr (Id.p 1) 0 0),(11,V.ptr (Id.p 2) 0 0),(26,V.lst 7 ps),(27,iv (↑ps.length:Int)),(28,iv (IntKind.i64.wrap ((↑k:Int)+(1:Int))))]) (Hp.mk [(0,O.rows 1 false [[nilS]]),(1,O.rows 10 false [[iv w,iv d,iv h,V.lst u (nb c),V.lst 4 (ptl l),V.lst 3 (fullR L),V.fmp nE,V.fmp pE,V.lst 1 bg,V.lst ws wr]]),(2,O.rows 1 false [[V.sl (Id.p 3) 0 1]]),(3,O.rows 6 true [[iv n,iv n_6,iv n_7,iv n_8,V.raw (Value.int IntKind.u8 n_9),V.raw (Value.int IntKind.u8 n_10)]])] 4 [])))) (R (V.tup [V.agg [nilS],iv (0:Int)]))) (by kernel_rfl) ?_
  rw [hpsl]
  refine ifB_mk (fun hb=>?_) (fun hb=>?_)
  ·have hlt:k<pl.length:=by have:=of_decide_eq_true hb; omega
   obtain ⟨y,hy⟩:=getI hlt
   have hyi:=hin y (List.mem_of_getElem? hy)
   obtain ⟨p,hp⟩:=getI hyi.1
   rw [wrapI (n:=(k:Int)+1) (by omega) (by omega)]
   have hJ1:J (sh31s w d h u c l L nE pE bg ws wr ps [brk w d h c l (ldP y)] (k+1)):=hJ ([brk w d h c l (ldP y)],k+1) ⟨hlt,next y hy⟩ (by simp only; omega)
   unfold sh31s at hJ1
   rw [hpsl] at hJ1
   subst hps
   refine pcel hy (brick66 (L:=L) (nE:=nE) (pE:=pE) (bg:=bg) (ws:=ws) (wr:=wr) (i:=y.1) (t:=y.2.1) (b:=y.2.2.1) (s:=y.2.2.2.1) (tc:=y.2.2.2.2) hs hu hp (hpt.2.1 _ p hp) hyi.2 ?_)
   exact hJ1
  ·exact fin (by have:=of_decide_eq_false hb; omega)
 | cons x q =>
  obtain ⟨bs,hbs⟩ : ∃ bs,bs=x::q:=⟨_,rfl⟩
  rw [← hbs] at k2 hbl next fin ⊢
  have hne:bs≠[]:=by rw [hbs]; simp
  show _
  simp only [shB31_s hne]
  refine see (p:=ifB (decide ((↑k:Int)<(↑ps.length:Int))) (onSome ps[k]? fun row=>onCons (List.drop 0 row) fun u_1 r=>onIntK IntKind.i64 u_1 fun n=>onCons r fun u_2 r=>onIntK IntKind.i64 u_2 fun n_1=>onCons r fun u_3 r=>onIntK IntKind.i64 u_3 fun n_2=>onCons r fun u_4 r=>onIntK IntKind.i64 u_4 fun n_3=>onCons r fun u_5 r=>onBool u_5 fun b=>onCons r fun u_6 r=>onIntK IntKind.u16 u_6 fun n_4=>onCons r fun u_7 r=>onIntK IntKind.u16 u_7 fun n_5=>K0G Tryd.prog glX 66 [V.agg [iv w,iv d,iv h,V.lst u (nb c),V.lst 4 (ptl l),V.lst 3 (fullR L),V.fmp nE,V.fmp pE,V.lst 1 bg,V.lst ws wr],V.agg [iv n,iv n_1,iv n_2,iv n_3,bv b,V.raw (Value.int IntKind.u16 n_4),V.raw (Value.int IntKind.u16 n_5)]] fun v=>onAgg v fun cs=>onCons cs fun u_8 r=>onIntK IntKind.i64 u_8 fun n=>onCons r fun u_9 r=>onIntK IntKind.i64 u_9 fun n_6=>onCons r fun u_10 r=>onIntK IntKind.i64 u_10 fun n_7=>onCons r fun u_11 r=>onIntK IntKind.i64 u_11 fun n_8=>onCons r fun u_12 r=>onIntK IntKind.u8 u_12 fun n_9=>onCons r fun u_13 r=>onIntK IntKind.u8 u_13 fun n_10=>onNil r (need ((bs.length+1) * 40≤140737488355328) (J (St.mk (mkT [(6,V.ptr (Id.p 0) 0 0),(8,V.ptr (Id.p 1) 0 0),(11,V.ptr (Id.p 2) 0 0),(26,V.lst 7 ps),(27,iv (↑ps.length:Int)),(28,iv (IntKind.i64.wrap ((↑k:Int)+(1:Int))))]) (Hp.mk [(0,O.rows 1 false [[nilS]]),(1,O.rows 10 false [[iv w,iv d,iv h,V.lst u (nb c),V.lst 4 (ptl l),V.lst 3 (fullR L),V.fmp nE,V.fmp pE,V.lst 1 bg,V.lst ws wr]]),(2,O.rows 1 false [[V.sl (Id.p 3) 0 (bs.length+1)]]),(3,O.rows 6 true (List.take bs.length (brl bs)++[[iv n,iv n_6,iv n_7,iv n_8,V.raw (Value.int IntKind.u8 n_9),V.raw (Value.int IntKind.u8 n_10)]]))] 4 []))))) (R (V.tup [V.agg [V.lst 6 (sub (brl bs) 0 bs.length)],iv (0:Int)]))) (by kernel_rfl) ?_
  rw [hpsl,take_brl,sub_brl]
  refine ifB_mk (fun hb=>?_) (fun hb=>?_)
  ·have hlt:k<pl.length:=by have:=of_decide_eq_true hb; omega
   obtain ⟨y,hy⟩:=getI hlt
   have hyi:=hin y (List.mem_of_getElem? hy)
   obtain ⟨p,hp⟩:=getI hyi.1
   rw [wrapI (n:=(k:Int)+1) (by omega) (by omega)]
   have hJ1:=hJ (bs++[brk w d h c l (ldP y)],k+1) ⟨hlt,next y hy⟩ (by simp only; omega)
   simp only at hJ1
   rw [shB31_s (by simp)] at hJ1
   unfold sh31s at hJ1
   rw [hpsl,List.length_append,show brl (bs++[brk w d h c l (ldP y)])=brl bs++[brR (brk w d h c l (ldP y))] by simp [brl]] at hJ1
   subst hps
   refine pcel hy (brick66 (L:=L) (nE:=nE) (pE:=pE) (bg:=bg) (ws:=ws) (wr:=wr) (i:=y.1) (t:=y.2.1) (b:=y.2.2.1) (s:=y.2.2.2.1) (tc:=y.2.2.2.2) hs hu hp (hpt.2.1 _ p hp) hyi.2 ?_)
   exact need_mk ⟨by omega,hJ1⟩
  ·have:=fin (by have:=of_decide_eq_false hb; omega)
   rw [hbs] at this ⊢
   exact this
theorem tkF_cons (pcs:List Pc) (s:TkS) (x:Ld) (cs:List Ld):tkF pcs s (x::cs)=(tkStep pcs s x).bind fun s1=>tkF pcs s1 cs:=by
 unfold tkF
 rw [List.foldlM_cons]
 rfl
theorem tkF_map {pcs:List Pc} : ∀ {cs:List Ld} {s s' : TkS},tkF pcs s cs=some s' → s'.1.map ldP=s.1.map ldP++cs ∧ ∀ y∈s'.1,y∈s.1∨y∈pcs
 | [],s,s', h=>by
  simp only [tkF,List.foldlM_nil] at h
  cases h
  exact ⟨by simp,fun y hy => .inl hy⟩
 | x::cs,s,s', h=>by
  rw [tkF_cons,Option.bind_eq_some_iff] at h
  obtain ⟨s1,h1,h2⟩:=h
  obtain ⟨g1,g2⟩:=tkF_map h2
  unfold tkStep at h1
  split at h1
  ·cases h1
  ·rename_i y hy
   split at h1
   ·cases h1
    have hsame:=List.find?_some hy
    have hin:=List.mem_of_find?_eq_some hy
    have hld:ldP y=x:=by
     obtain ⟨e1,e2,e3⟩:=of_decide_eq_true hsame
     obtain ⟨a,b,e⟩:=x
     simp only at e1 e2 e3
     unfold ldP
     rw [e1,e2,e3]
    refine ⟨by rw [g1]; simp [hld],fun z hz=>?_⟩
    rcases g2 z hz with q | q
    ·rcases List.mem_append.1 q with q | q
     ·exact .inl q
     ·rw [List.mem_singleton] at q
      subst q
      exact .inr hin
    ·exact .inr q
   ·cases h1
theorem laid_map {w d:Int} {c:List Nat} {l:List Pt} {cs:List Ld} {ps:List Pc} (h:laid w d c l cs=some ps):ps.map ldP=cs ∧ ∀ y∈ps,y∈allPc (bdL w d c) (colN c) l (bdL w d c).length:=by
 unfold laid tkOK at h
 split at h
 ·rename_i s hs
  split at h
  ·cases h
   obtain ⟨h1,h2⟩:=tkF_map hs
   exact ⟨by simpa using h1,fun y hy=>(h2 y hy).resolve_left (by simp)⟩
  ·cases h
 ·cases h
theorem piece_in {w d h:Int} {c:List Nat} {l:List Pt} {n:Nat} (hs:ShOK w d h c) {y:Pc} (hy:y∈allPc (bdL w d c) (colN c) l n):y.1<l.length∧(0≤y.2.1.1∧y.2.1.1<w)∧(0≤y.2.1.2.1∧y.2.1.2.1<d)∧0≤y.2.1.2.2∧y.2.1.2.2<h:=by
 obtain ⟨k,t,h1,h2,h3,h4⟩:=mem_allPc hy
 obtain ⟨i,_,_,_,_,g1,g2,g3⟩:=col_at hs h2
 rw [h3]
 exact ⟨h4,g1,g2,g3⟩
theorem model31 {w d h:Int} {u:Nat} {c:List Nat} {l:List Pt} {sc:Nat} {cs:List Ld} {R:V→Prop} (hu:u=1∨c=[]) (hsc:sc=5∨cs=[]) (hcs:cs.length≤900)
  (h70 : ¬ ShOK w d h c→R (.tup [.agg [nilS],iv 70])) (h71:ShOK w d h c → ¬ PtOK l→R (.tup [.agg [nilS],iv 71])) (h8:ShOK w d h c→PtOK l→laid w d c l cs=none→R (.tup [.agg [nilS],iv 8]))
  (h0:ShOK w d h c→PtOK l → ∀ ps,laid w d c l cs=some ps→R (.tup [.agg [brV (cs.map (brk w d h c l))],iv 0])) :
  K0G Tryd.prog glX 31 [.agg [iv w,iv d,iv h,.lst u (nb c)],.lst 4 (ptl l),.lst sc (ldl cs)] R:=by
 refine K0_of_WY0 hmX hcMo 3000 Tryd.func31 (see (p:=K0G Tryd.prog glX 43 [V.agg [iv w,iv d,iv h,V.lst u (nb c)],V.lst 4 (ptl l),V.lst sc (ldl cs)] fun v=>onTup v fun vs=>onCons vs fun u r=>onAgg u fun cs=>onCons cs fun u r_1=>onIntK IntKind.i64 u fun n=>onCons r_1 fun u r_2=>onIntK IntKind.i64 u fun n_1=>onCons r_2 fun u r_3=>onIntK IntKind.i64 u fun n_2=>onCons r_3 fun u r_4=>onLst u fun s es=>onCons r_4 fun u r_5=>onLst u fun s_1 es_1=>onCons r_5 fun u r_6=>onLst u fun s_2 es_2=>onCons r_6 fun u r_7=>onFmp u (onCons r_7 fun u r_8=>onFmp u (onCons r_8 fun u r_9=>onLst u fun s_3 es_3=>onCons r_9 fun u r_10=>onLst u fun s_4 es_4=>onNil r_10 (onCons r fun u r=>onLst u fun s_5 es_5=>onCons r fun u r=>onIntK IntKind.i64 u fun n_3=>onNil r (ifB (n_3 != (0:Int)) (R (V.tup [V.agg [nilS],iv n_3])) (La 0 [(6:Tmp),(8:Tmp),(11:Tmp),(26:Tmp),(27:Tmp),(28:Tmp),(6000000:Tmp)] (WY Tryd.prog cfM 2992 (Env.mk (Bs.mk 0 []) 0 none 42 31 0) (cdAt [1,1,1,1,0,1,0,0] (bodyOf Tryd.f31))) (Qblk 0 (Qthen (WY Tryd.prog cfM 2995 (Env.mk (Bs.mk 0 []) 0 none 42 31 0) (cdAt [1,1,1,1,1] (bodyOf Tryd.f31)) (QendX Tryd.prog Tryd.f31 fun v h=>R (frzW h v))) (QendX Tryd.prog Tryd.f31 fun v h=>R (frzW h v)))) (St.mk (mkT [(6,V.ptr (Id.p 0) 0 0),(8,V.ptr (Id.p 1) 0 0),(11,V.ptr (Id.p 2) 0 0),(26,V.lst s_5 es_5),(27,iv (↑es_5.length:Int)),(28,iv (0:Int))]) (Hp.mk [(0,O.rows 1 false [[nilS]]),(1,O.rows 10 false [[iv n,iv n_1,iv n_2,V.lst s es,V.lst s_1 es_1,V.lst s_2 es_2,V.raw (Value.map none),V.raw (Value.map none),V.lst s_3 es_3,V.lst s_4 es_4]]),(2,O.rows 1 false [[nilS]])] 3 [])))))) fun me=>onCons r_8 fun u r_9=>onLst u fun s_3 es_3=>onCons r_9 fun u r_10=>onLst u fun s_4 es_4=>onNil r_10 (onCons r fun u r=>onLst u fun s_5 es_5=>onCons r fun u r=>onIntK IntKind.i64 u fun n_3=>onNil r (ifB (n_3 != (0:Int)) (R (V.tup [V.agg [nilS],iv n_3])) (La 0 [(6:Tmp),(8:Tmp),(11:Tmp),(26:Tmp),(27:Tmp),(28:Tmp),(6000000:Tmp)] (WY Tryd.prog cfM 2992 (Env.mk (Bs.mk 0 []) 0 none 42 31 0) (cdAt [1,1,1,1,0,1,0,0] (bodyOf Tryd.f31))) (Qblk 0 (Qthen (WY Tryd.prog cfM 2995 (Env.mk (Bs.mk 0 []) 0 none 42 31 0) (cdAt [1,1,1,1,1] (bodyOf Tryd.f31)) (QendX Tryd.prog Tryd.f31 fun v h=>R (frzW h v))) (QendX Tryd.prog Tryd.f31 fun v h=>R (frzW h v)))) (St.mk (mkT [(6,V.ptr (Id.p 0) 0 0),(8,V.ptr (Id.p 1) 0 0),(11,V.ptr (Id.p 2) 0 0),(26,V.lst s_5 es_5),(27,iv (↑es_5.length:Int)),(28,iv (0:Int))]) (Hp.mk [(0,O.rows 1 false [[nilS]]),(1,O.rows 10 false [[iv n,iv n_1,iv n_2,V.lst s es,V.lst s_1 es_1,V.lst s_2 es_2,V.raw (Value.map none),V.fmp me,V.lst s_3 es_3,V.lst s_4 es_4]]),(2,O.rows 1 false [[nilS]])] 3 [])))))) fun me=>onCons r_7 fun u r_8=>onFmp u (onCons r_8 fun u r_9=>onLst u fun s_3 es_3=>onCons r_9 fun u r_10=>onLst u fun s_4 es_4=>onNil r_10 (onCons r fun u r=>onLst u fun s_5 es_5=>onCons r fun u r=>onIntK IntKind.i64 u fun n_3=>onNil r (ifB (n_3 != (0:Int)) (R (V.tup [V.agg [nilS],iv n_3])) (La 0 [(6:Tmp),(8:Tmp),(11:Tmp),(26:Tmp),(27:Tmp),(28:Tmp),(6000000:Tmp)] (WY Tryd.prog cfM 2992 (Env.mk (Bs.mk 0 []) 0 none 42 31 0) (cdAt [1,1,1,1,0,1,0,0] (bodyOf Tryd.f31))) (Qblk 0 (Qthen (WY Tryd.prog cfM 2995 (Env.mk (Bs.mk 0 []) 0 none 42 31 0) (cdAt [1,1,1,1,1] (bodyOf Tryd.f31)) (QendX Tryd.prog Tryd.f31 fun v h=>R (frzW h v))) (QendX Tryd.prog Tryd.f31 fun v h=>R (frzW h v)))) (St.mk (mkT [(6,V.ptr (Id.p 0) 0 0),(8,V.ptr (Id.p 1) 0 0),(11,V.ptr (Id.p 2) 0 0),(26,V.lst s_5 es_5),(27,iv (↑es_5.length:Int)),(28,iv (0:Int))]) (Hp.mk [(0,O.rows 1 false [[nilS]]),(1,O.rows 10 false [[iv n,iv n_1,iv n_2,V.lst s es,V.lst s_1 es_1,V.lst s_2 es_2,V.fmp me,V.raw (Value.map none),V.lst s_3 es_3,V.lst s_4 es_4]]),(2,O.rows 1 false [[nilS]])] 3 [])))))) fun me_1=>onCons r_8 fun u r_9=>onLst u fun s_3 es_3=>onCons r_9 fun u r_10=>onLst u fun s_4 es_4=>onNil r_10 (onCons r fun u r=>onLst u fun s_5 es_5=>onCons r fun u r=>onIntK IntKind.i64 u fun n_3=>onNil r (ifB (n_3 != (0:Int)) (R (V.tup [V.agg [nilS],iv n_3])) (La 0 [(6:Tmp),(8:Tmp),(11:Tmp),(26:Tmp),(27:Tmp),(28:Tmp),(6000000:Tmp)] (WY Tryd.prog cfM 2992 (Env.mk (Bs.mk 0 []) 0 none 42 31 0) (cdAt [1,1,1,1,0,1,0,0] (bodyOf Tryd.f31))) (Qblk 0 (Qthen (WY Tryd.prog cfM 2995 (Env.mk (Bs.mk 0 []) 0 none 42 31 0) (cdAt [1,1,1,1,1] (bodyOf Tryd.f31)) (QendX Tryd.prog Tryd.f31 fun v h=>R (frzW h v))) (QendX Tryd.prog Tryd.f31 fun v h=>R (frzW h v)))) (St.mk (mkT [(6,V.ptr (Id.p 0) 0 0),(8,V.ptr (Id.p 1) 0 0),(11,V.ptr (Id.p 2) 0 0),(26,V.lst s_5 es_5),(27,iv (↑es_5.length:Int)),(28,iv (0:Int))]) (Hp.mk [(0,O.rows 1 false [[nilS]]),(1,O.rows 10 false [[iv n,iv n_1,iv n_2,V.lst s es,V.lst s_1 es_1,V.lst s_2 es_2,V.fmp me,V.fmp me_1,V.lst s_3 es_3,V.lst s_4 es_4]]),(2,O.rows 1 false [[nilS]])] 3 [])))))) (by kernel_rfl) ?_)
 refine composed43 hu hsc (by omega) (fun q=>h70 q) (fun q q' => h71 q q') (fun q q' q'' => h8 q q' q'') (fun hs hpt ps hps=>?_)
 obtain ⟨hm,hin⟩:=laid_map hps
 have hlen:ps.length=cs.length:=by rw [← hm,List.length_map]
 have h0:=h0 hs hpt ps hps
 rw [← hm,List.map_map] at h0
 exact loop31 (sc:=sc) (cs:=cs) (L:=bdL w d c) (nE:=numE (bdL w d c)) (pE:=pieE (allPc (bdL w d c) (colN c) l (bdL w d c).length)) (bg:=begR (bdL w d c).length (cellPc (bdL w d c) (colN c) l)) (ws:=wlS (wallU (bdL w d c) (bdL w d c).length)) (wr:=wlR (wallU (bdL w d c) (bdL w d c).length)) (ps:=ps.map pcR) (pl:=ps) hs hu hpt rfl (by omega) (fun y hy=>piece_in hs (hin y hy)) h0
noncomputable def shB32 (w d h:Int) (u:Nat) (c:List Nat) (l:List Pt) (sc:Nat) (cs:List Ld) (bs:List Br) (k:Nat):St:=match bs with
 | []=>sh32n w d h u c l sc cs k
 | x::q=>sh32s w d h u c l sc cs (x::q) k
theorem shB32_s {w d h:Int} {u:Nat} {c:List Nat} {l:List Pt} {sc:Nat} {cs:List Ld} {bs:List Br} {k:Nat} (h0:bs≠[]):shB32 w d h u c l sc cs bs k=sh32s w d h u c l sc cs bs k:=by
 cases bs with
 | nil=>exact absurd rfl h0
 | cons x q=>rfl
theorem model32 {w d h:Int} {u:Nat} {c:List Nat} {l:List Pt} {sc:Nat} {cs:List Ld} {R:V→Prop} (hu:u=1∨c=[]) (hsc:sc=5∨cs=[]) (hcs:cs.length≤900)
  (h70 : ¬ ShOK w d h c→R (.tup [.agg [nilS],iv 70])) (h71:ShOK w d h c → ¬ PtOK l→R (.tup [.agg [nilS],iv 71])) (h8:ShOK w d h c→PtOK l → ¬ compP w d h c l cs→R (.tup [.agg [nilS],iv 8]))
  (h0:ShOK w d h c→PtOK l→compP w d h c l cs→R (.tup [.agg [brV (cs.map (brk w d h c l))],iv 0])) :
  K0G Tryd.prog glX 32 [.agg [iv w,iv d,iv h,.lst u (nb c)],.lst 4 (ptl l),.lst sc (ldl cs)] R:=by
 refine K0_of_WY0 hmX hcMo 3000 Tryd.func32 (see (p:=K0G Tryd.prog glX 21 [V.agg [iv w,iv d,iv h,V.lst u (nb c)],V.lst 4 (ptl l),V.lst sc (ldl cs)] fun v=>onIntK IntKind.i64 v fun n=>ifB (n != (0:Int)) (R (V.tup [V.agg [nilS],iv n])) (La 0 [(1:Tmp),(2:Tmp),(3:Tmp),(6:Tmp),(9:Tmp),(10:Tmp)] (WY Tryd.prog cfM 2993 (Env.mk (Bs.mk 0 []) 0 none 86 32 0) (cdAt [1,1,1,0,1,0,0] (bodyOf Tryd.f32))) (Qblk 0 (Qthen (WY Tryd.prog cfM 2996 (Env.mk (Bs.mk 0 []) 0 none 86 32 0) (cdAt [1,1,1,1] (bodyOf Tryd.f32)) (QendX Tryd.prog Tryd.f32 fun v h=>R (frzW h v))) (QendX Tryd.prog Tryd.f32 fun v h=>R (frzW h v)))) (St.mk (mkT [(1,V.lst 4 (ptl l)),(2,V.lst sc (ldl cs)),(3,V.ptr (Id.p 0) 0 0),(6,V.ptr (Id.p 1) 0 0),(9,V.ptr (Id.p 2) 0 0),(10,iv (0:Int))]) (Hp.mk [(0,O.rows 4 false [[iv w,iv d,iv h,V.lst u (nb c)]]),(1,O.rows 1 false [[nilS]]),(2,O.rows 1 false [[nilS]])] 3 [])))) (by kernel_rfl) ?_)
 refine check21 hu hsc hcs (fun q=>onIntK_iv (ifB_t rfl (h70 q))) (fun q q' => onIntK_iv (ifB_t rfl (h71 q q'))) (fun q q' q'' => onIntK_iv (ifB_t rfl (h8 q q' q''))) (fun hs hpt hcp=>onIntK_iv (ifB_f rfl ?_))
 have hw1:=hs.1; have hd1:=hs.2.1; have hh1:=hs.2.2.1
 have h0:=h0 hs hpt hcp
 refine La.of (σ:=List Br×Nat) (fun s=>shB32 w d h u c l sc cs s.1 s.2) (fun s=>s.2≤cs.length∧s.1=(cs.take s.2).map (brk w d h c l)) (fun s=>cs.length - s.2) ([],0) (by kernel_rfl) ⟨Nat.zero_le _,rfl⟩ ?_
 rintro ⟨bs,k⟩ ⟨k1,k2⟩ J hJ
 simp only at k1 k2
 have hbl:bs.length=k:=by rw [k2,List.length_map,List.length_take]; omega
 have next : ∀ y,cs[k]? = some y→bs++[brk w d h c l y]=(cs.take (k+1)).map (brk w d h c l):=fun y hy=>by rw [List.take_add_one,hy,k2]; simp
 have fin : ¬ k<cs.length→R (.tup [.agg [brV bs],iv 0]):=fun q=>by
  rw [List.take_of_length_le (by omega)] at k2
  rw [k2]; exact h0
 have facts : ∀ x,cs[k]? = some x→sc=5 ∧ ∃ p,x.1=(x.1.toNat:Int)∧l[x.1.toNat]? = some p∧dpl l x.1=p.2.1∧(1≤p.2.1∧p.2.1≤8)∧0≤x.2.1.1∧x.2.1.1<w:=fun x hx=>by
  obtain ⟨⟨q1,q2,q3,q4⟩,p,hp,_⟩:=(hcp.1 k x hx).1
  refine ⟨hsc.resolve_right (by rintro rfl; simp at hx),p,by omega,hp,by unfold dpl; rw [hp],?_,q2⟩
  exact (hpt.2.1 _ p hp).2.1
 cases bs with
 | nil =>
  show _
  refine see (p:=ifB (decide ((↑k:Int)<(↑(ldl cs).length:Int))) (need (sc=5) (onSome (ldl cs)[k]? fun row=>onSome row[0]? fun v=>onIntK IntKind.i64 v fun n=>need (sc=5) (onSome (ldl cs)[k]? fun row=>onCons (List.drop 1 row) fun u_1 r=>onIntK IntKind.i64 u_1 fun n_1=>onCons r fun u_2 r=>onIntK IntKind.i64 u_2 fun n_2=>onCons r fun u_3 r=>onIntK IntKind.i64 u_3 fun n_3=>need (sc=5) (onSome (ldl cs)[k]? fun row=>onSome row[1]? fun v=>onIntK IntKind.i64 v fun n_4=>need (sc=5) (onSome (ldl cs)[k]? fun row=>onSome row[2]? fun v=>onIntK IntKind.i64 v fun n_5=>need (sc=5) (onSome (ldl cs)[k]? fun row=>onSome row[3]? fun v=>onIntK IntKind.i64 v fun n_6=>K0G Tryd.prog glX 67 [V.agg [iv w,iv d,iv h,V.lst u (nb c)],iv n_4,iv n_5,iv n_6] fun v=>onIntK IntKind.u8 v fun n_7=>need (sc=5) (onSome (ldl cs)[k]? fun row=>onSome row[4]? fun v=>onBool v fun b=>ifB b (need (sc=5) (onSome (ldl cs)[k]? fun row=>onSome row[0]? fun v=>onIntK IntKind.i64 v fun n_8=>onNat n_8 fun m=>onSome (ptl l)[m]? fun row=>onSome row[1]? fun v=>onIntK IntKind.i64 v fun n_9=>J (St.mk (mkT [(1,V.lst 4 (ptl l)),(2,V.lst sc (ldl cs)),(3,V.ptr (Id.p 0) 0 0),(6,V.ptr (Id.p 1) 0 0),(9,V.ptr (Id.p 2) 0 0),(10,iv (IntKind.i64.wrap ((↑k:Int)+(1:Int))))]) (Hp.mk [(0,O.rows 4 false [[iv w,iv d,iv h,V.lst u (nb c)]]),(1,O.rows 1 false [[nilS]]),(2,O.rows 1 false [[V.sl (Id.p 3) 0 1]]),(3,O.rows 6 true [[iv n,iv (IntKind.i64.wrap (n_1+IntKind.i64.wrap (n_9 - (1:Int)))),iv n_2,iv n_3,V.raw (Value.int IntKind.u8 (1:Int)),V.raw (Value.int IntKind.u8 n_7)]])] 4 [])))) (J (St.mk (mkT [(1,V.lst 4 (ptl l)),(2,V.lst sc (ldl cs)),(3,V.ptr (Id.p 0) 0 0),(6,V.ptr (Id.p 1) 0 0),(9,V.ptr (Id.p 2) 0 0),(10,iv (IntKind.i64.wrap ((↑k:Int)+(1:Int))))]) (Hp.mk [(0,O.rows 4 false [[iv w,iv d,iv h,V.lst u (nb c)]]),(1,O.rows 1 false [[nilS]]),(2,O.rows 1 false [[V.sl (Id.p 3) 0 1]]),(3,O.rows 6 true [[iv n,iv n_1,iv n_2,iv n_3,V.raw (Value.int IntKind.u8 (0:Int)),V.raw (Value.int IntKind.u8 n_7)]])] 4 [])))))))))) (R (V.tup [V.agg [nilS],iv (0:Int)]))) (by kernel_rfl) ?_
  rw [ldl_length]
  refine ifB_mk (fun hb=>?_) (fun hb=>?_)
  ·have hlt:k<cs.length:=by have:=of_decide_eq_true hb; omega
   obtain ⟨x,hx⟩:=getI hlt
   obtain ⟨f1,p,f2,f3,f4,f5,f6⟩:=facts x hx
   rw [wrapI (n:=(k:Int)+1) (by omega) (by omega)]
   have hJ1:J (sh32s w d h u c l sc cs [brk w d h c l x] (k+1)):=hJ ([brk w d h c l x],k+1) ⟨hlt,next x hx⟩ (by simp only; omega)
   unfold sh32s brk at hJ1
   rw [f4] at hJ1
   have hl:=lda hx
   refine need_mk ⟨f1,onSome_mk hl (onSome_mk rfl (onIntK_iv (need_mk ⟨f1,ldel1 hx (need_mk ⟨f1,onSome_mk hl (onSome_mk rfl (onIntK_iv ?_))⟩)⟩)))⟩
   refine need_mk ⟨f1,onSome_mk hl (onSome_mk rfl (onIntK_iv (need_mk ⟨f1,onSome_mk hl (onSome_mk rfl (onIntK_iv ?_))⟩)))⟩
   refine at67 hs hu (onIntK_u8 (need_mk ⟨f1,onSome_mk hl (onSome_mk rfl (onBool_bv ?_))⟩))
   refine ifB_mk (fun e=>?_) (fun e=>?_)
   ·refine need_mk ⟨f1,onSome_mk hl (onSome_mk rfl (onIntK_iv (onNat_mk f2 (onSome_mk (ptat f3) (onSome_mk rfl (onIntK_iv ?_))))))⟩
    rw [wrapI (n:=p.2.1 - 1) (by omega) (by omega),wrapI (n:=x.2.1.1+(p.2.1 - 1)) (by omega) (by omega)]
    simp only [e,if_true] at hJ1
    exact hJ1
   ·simp only [e,Bool.false_eq_true,if_false] at hJ1
    exact hJ1
  ·exact fin (by have:=of_decide_eq_false hb; omega)
 | cons x q =>
  obtain ⟨bs,hbs⟩ : ∃ bs,bs=x::q:=⟨_,rfl⟩
  rw [← hbs] at k2 hbl next fin ⊢
  have hne:bs≠[]:=by rw [hbs]; simp
  show _
  simp only [shB32_s hne]
  refine see (p:=ifB (decide ((↑k:Int)<(↑(ldl cs).length:Int))) (need (sc=5) (onSome (ldl cs)[k]? fun row=>onSome row[0]? fun v=>onIntK IntKind.i64 v fun n=>need (sc=5) (onSome (ldl cs)[k]? fun row=>onCons (List.drop 1 row) fun u_1 r=>onIntK IntKind.i64 u_1 fun n_1=>onCons r fun u_2 r=>onIntK IntKind.i64 u_2 fun n_2=>onCons r fun u_3 r=>onIntK IntKind.i64 u_3 fun n_3=>need (sc=5) (onSome (ldl cs)[k]? fun row=>onSome row[1]? fun v=>onIntK IntKind.i64 v fun n_4=>need (sc=5) (onSome (ldl cs)[k]? fun row=>onSome row[2]? fun v=>onIntK IntKind.i64 v fun n_5=>need (sc=5) (onSome (ldl cs)[k]? fun row=>onSome row[3]? fun v=>onIntK IntKind.i64 v fun n_6=>K0G Tryd.prog glX 67 [V.agg [iv w,iv d,iv h,V.lst u (nb c)],iv n_4,iv n_5,iv n_6] fun v=>onIntK IntKind.u8 v fun n_7=>need (sc=5) (onSome (ldl cs)[k]? fun row=>onSome row[4]? fun v=>onBool v fun b=>ifB b (need (sc=5) (onSome (ldl cs)[k]? fun row=>onSome row[0]? fun v=>onIntK IntKind.i64 v fun n_8=>onNat n_8 fun m=>onSome (ptl l)[m]? fun row=>onSome row[1]? fun v=>onIntK IntKind.i64 v fun n_9=>need ((bs.length+1) * 40≤140737488355328) (J (St.mk (mkT [(1,V.lst 4 (ptl l)),(2,V.lst sc (ldl cs)),(3,V.ptr (Id.p 0) 0 0),(6,V.ptr (Id.p 1) 0 0),(9,V.ptr (Id.p 2) 0 0),(10,iv (IntKind.i64.wrap ((↑k:Int)+(1:Int))))]) (Hp.mk [(0,O.rows 4 false [[iv w,iv d,iv h,V.lst u (nb c)]]),(1,O.rows 1 false [[nilS]]),(2,O.rows 1 false [[V.sl (Id.p 3) 0 (bs.length+1)]]),(3,O.rows 6 true (List.take bs.length (brl bs)++[[iv n,iv (IntKind.i64.wrap (n_1+IntKind.i64.wrap (n_9 - (1:Int)))),iv n_2,iv n_3,V.raw (Value.int IntKind.u8 (1:Int)),V.raw (Value.int IntKind.u8 n_7)]]))] 4 []))))) (need ((bs.length+1) * 40≤140737488355328) (J (St.mk (mkT [(1,V.lst 4 (ptl l)),(2,V.lst sc (ldl cs)),(3,V.ptr (Id.p 0) 0 0),(6,V.ptr (Id.p 1) 0 0),(9,V.ptr (Id.p 2) 0 0),(10,iv (IntKind.i64.wrap ((↑k:Int)+(1:Int))))]) (Hp.mk [(0,O.rows 4 false [[iv w,iv d,iv h,V.lst u (nb c)]]),(1,O.rows 1 false [[nilS]]),(2,O.rows 1 false [[V.sl (Id.p 3) 0 (bs.length+1)]]),(3,O.rows 6 true (List.take bs.length (brl bs)++[[iv n,iv n_1,iv n_2,iv n_3,V.raw (Value.int IntKind.u8 (0:Int)),V.raw (Value.int IntKind.u8 n_7)]]))] 4 []))))))))))) (R (V.tup [V.agg [V.lst 6 (sub (brl bs) 0 bs.length)],iv (0:Int)]))) (by kernel_rfl) ?_
  rw [ldl_length,take_brl,sub_brl]
  refine ifB_mk (fun hb=>?_) (fun hb=>?_)
  ·have hlt:k<cs.length:=by have:=of_decide_eq_true hb; omega
   obtain ⟨x,hx⟩:=getI hlt
   obtain ⟨f1,p,f2,f3,f4,f5,f6⟩:=facts x hx
   rw [wrapI (n:=(k:Int)+1) (by omega) (by omega)]
   have hJ1:=hJ (bs++[brk w d h c l x],k+1) ⟨hlt,next x hx⟩ (by simp only; omega)
   simp only at hJ1
   rw [shB32_s (by simp)] at hJ1
   unfold sh32s at hJ1
   rw [List.length_append,show brl (bs++[brk w d h c l x])=brl bs++[brR (brk w d h c l x)] by simp [brl]] at hJ1
   unfold brk at hJ1
   rw [f4] at hJ1
   have hl:=lda hx
   refine need_mk ⟨f1,onSome_mk hl (onSome_mk rfl (onIntK_iv (need_mk ⟨f1,ldel1 hx (need_mk ⟨f1,onSome_mk hl (onSome_mk rfl (onIntK_iv ?_))⟩)⟩)))⟩
   refine need_mk ⟨f1,onSome_mk hl (onSome_mk rfl (onIntK_iv (need_mk ⟨f1,onSome_mk hl (onSome_mk rfl (onIntK_iv ?_))⟩)))⟩
   refine at67 hs hu (onIntK_u8 (need_mk ⟨f1,onSome_mk hl (onSome_mk rfl (onBool_bv ?_))⟩))
   refine ifB_mk (fun e=>?_) (fun e=>?_)
   ·refine need_mk ⟨f1,onSome_mk hl (onSome_mk rfl (onIntK_iv (onNat_mk f2 (onSome_mk (ptat f3) (onSome_mk rfl (onIntK_iv (need_mk ⟨by omega,?_⟩)))))))⟩
    rw [wrapI (n:=p.2.1 - 1) (by omega) (by omega),wrapI (n:=x.2.1.1+(p.2.1 - 1)) (by omega) (by omega)]
    simp only [e,if_true] at hJ1
    exact hJ1
   ·simp only [e,Bool.false_eq_true,if_false] at hJ1
    exact need_mk ⟨by omega,hJ1⟩
  ·have:=fin (by have:=of_decide_eq_false hb; omega)
   rw [hbs] at this ⊢
   exact this
set_option maxRecDepth 100000
def kpN:FuncId→Nat→Option (List Tmp):=slotsOf [(35,0,[2,3,5])]
noncomputable def cfN:Cfg:=cfgD Tryd.prog glX (fun _=>0) dyB (inN []) kpN
noncomputable def sh35 (s:Nat) (a:List Br) (k:Nat):St:=⟨mkT [(2,V.ptr (Id.p 0) 0 0),(3,V.ptr (Id.p 1) 0 0),(5,iv (k:Int))],⟨[(0,O.rows 1 false [[V.lst s (brl a)]]),(1,O.rows 1 false [[V.lst s (brl a)]])],2,[]⟩⟩
set_option maxRecDepth 10000
inductive Rch (ps:List Pc):Nat→Prop
 | base {y:Pc} (h:ps[0]? = some y):Rch ps y.2.2.2.1
 | step {s:Nat} {y:Pc} (h:Rch ps s) (hy:y∈ps) (ht:y.2.2.2.2 &&& s≠0):Rch ps (s ||| y.2.2.2.1)
set_option maxRecDepth 100000
set_option maxRecDepth 10000
def touchB (l:List Pt) (x y:Ld) (i j k:Int):Bool:=hasL l x i j k&&(hasL l y i j (k+1) || hasL l y i j (k - 1))
def touchP (w d h:Int) (l:List Pt) (x y:Ld):Prop := ∃ i j k,(0≤i∧i<w)∧(0≤j∧j<d)∧(0≤k∧k<h)∧touchB l x y i j k=true
set_option maxRecDepth 100000
set_option maxRecDepth 10000
inductive Tch (w d h:Int) (l:List Pt) (cs:List Ld):Nat→Prop
 | base:Tch w d h l cs 0
 | step {i j:Nat} {x y:Ld} (h1:Tch w d h l cs i) (hx:cs[i]? = some x) (hy:cs[j]? = some y) (ht:touchP w d h l x y):Tch w d h l cs j
def cnt (q:List Bool):Nat:=q.countP fun b=>b
theorem hcN:cfN.ok Tryd.prog:=cfgD_ok
theorem brel {bs:List Br} {k:Nat} {y:Br} {K:Int→Int→Int→Int→Int→Int→Prop} (h:bs[k]? = some y) (hk:K y.1 y.2.1.1 y.2.1.2.1 y.2.1.2.2 y.2.2.1 y.2.2.2):onSome (brl bs)[k]? fun row=>onCons (List.drop 0 row) fun u r=>onIntK IntKind.i64 u fun n=>onCons r fun u r=>onIntK IntKind.i64 u fun n_1=>onCons r fun u r=>onIntK IntKind.i64 u fun n_2=>onCons r fun u r=>onIntK IntKind.i64 u fun n_3=>onCons r fun u r=>onIntK IntKind.u8 u fun n_4=>onCons r fun u r=>onIntK IntKind.u8 u fun n_5=>K n n_1 n_2 n_3 n_4 n_5 :=
 onSome_mk (by simp [brl,h]:(brl bs)[k]? = some (brR y)) hk
theorem same35 {s:Nat} {a:List Br} {R:V→Prop} (hs:s=6∨a=[]) (ha:a.length≤1000) (h:R (bv true)):K0G Tryd.prog glX 35 [.agg [.lst s (brl a)],.agg [.lst s (brl a)]] R:=by
 refine K0_of_WY0 hmX hcN 3000 Tryd.func35 (see (p:=ifB ((↑(brl a).length:Int) != (↑(brl a).length:Int)) (R (bv false)) (La 0 [(2:Tmp),(3:Tmp),(5:Tmp)] (WY Tryd.prog cfN 2994 (Env.mk (Bs.mk 0 []) 0 none 31 35 0) (cdAt [1,1,0,1,0,0] (bodyOf Tryd.f35))) (Qblk 0 (Qthen (WY Tryd.prog cfN 2997 (Env.mk (Bs.mk 0 []) 0 none 31 35 0) (cdAt [1,1,1] (bodyOf Tryd.f35)) (QendX Tryd.prog Tryd.f35 fun v h=>R (frzW h v))) (QendX Tryd.prog Tryd.f35 fun v h=>R (frzW h v)))) (St.mk (mkT [(2,V.ptr (Id.p 0) 0 0),(3,V.ptr (Id.p 1) 0 0),(5,iv (0:Int))]) (Hp.mk [(0,O.rows 1 false [[V.lst s (brl a)]]),(1,O.rows 1 false [[V.lst s (brl a)]])] 2 [])))) (by kernel_rfl) ?_)
 refine ifB_f (by simp) ?_
 refine La.of (σ:=Nat) (fun k=>sh35 s a k) (fun k=>k≤a.length) (fun k=>a.length - k) 0 (by kernel_rfl) (Nat.zero_le _) ?_
 rintro k k1 J hJ
 refine see (p:=ifB (decide ((↑k:Int)<(↑(brl a).length:Int))) (need (s=6) (onSome (brl a)[k]? fun row=>onCons (List.drop 0 row) fun u r=>onIntK IntKind.i64 u fun n=>onCons r fun u r=>onIntK IntKind.i64 u fun n_1=>onCons r fun u r=>onIntK IntKind.i64 u fun n_2=>onCons r fun u r=>onIntK IntKind.i64 u fun n_3=>onCons r fun u r=>onIntK IntKind.u8 u fun n_4=>onCons r fun u r=>onIntK IntKind.u8 u fun n_5=>need (s=6) (onSome (brl a)[k]? fun row=>onCons (List.drop 0 row) fun u r=>onIntK IntKind.i64 u fun n_6=>onCons r fun u r=>onIntK IntKind.i64 u fun n_7=>onCons r fun u r=>onIntK IntKind.i64 u fun n_8=>onCons r fun u r=>onIntK IntKind.i64 u fun n_9=>onCons r fun u r=>onIntK IntKind.u8 u fun n_10=>onCons r fun u r=>onIntK IntKind.u8 u fun n_11=>ifB (!(fun b=>n==n_6&&b) ((fun b=>(fun b=>n_1==n_7&&b) ((fun b=>n_2==n_8&&b) ((fun b=>n_3==n_9&&b) true))&&b) ((fun b=>n_4==n_10&&b) ((fun b=>n_5==n_11&&b) true)))) (R (bv false)) (J (St.mk (mkT [(2,V.ptr (Id.p 0) 0 0),(3,V.ptr (Id.p 1) 0 0),(5,iv (IntKind.i64.wrap ((↑k:Int)+(1:Int))))]) (Hp.mk [(0,O.rows 1 false [[V.lst s (brl a)]]),(1,O.rows 1 false [[V.lst s (brl a)]])] 2 [])))))) (R (bv true))) (by kernel_rfl) ?_
 rw [show (brl a).length=a.length by simp [brl]]
 refine ifB_mk (fun hb=>?_) (fun hb=>h)
 have hlt:k<a.length:=by have:=of_decide_eq_true hb; omega
 obtain ⟨y,hy⟩:=getI hlt
 have hs6:s=6:=hs.resolve_right (by rintro rfl; simp at hlt)
 rw [wrapI (n:=(k:Int)+1) (by omega) (by omega)]
 exact need_mk ⟨hs6,brel hy (need_mk ⟨hs6,brel hy (ifB_f (by simp) (hJ (k+1) hlt (by omega)))⟩)⟩
theorem uniq_mul {A B a b w:Int} (ha:0≤a∧a<w) (hb:0≤b∧b<w) (h:A * w+a=B * w+b):A=B∧a=b:=by
 rcases Int.lt_trichotomy A B with q | q | q
 ·have:=Int.mul_le_mul_of_nonneg_right (show 1≤B - A by omega) (show 0≤w by omega)
  rw [Int.sub_mul,Int.one_mul] at this
  omega
 ·subst q; exact ⟨rfl,by omega⟩
 ·have:=Int.mul_le_mul_of_nonneg_right (show 1≤A - B by omega) (show 0≤w by omega)
  rw [Int.sub_mul,Int.one_mul] at this
  omega
def insideP (w d h:Int) (t:C3):Prop:=(0≤t.1∧t.1<w)∧(0≤t.2.1∧t.2.1<d)∧0≤t.2.2∧t.2.2<h
theorem cel_ix {w d h:Int} {t:C3} (ht:insideP w d h t) {i:Nat} (hi:(i:Int)=ixI w d t):cel w d i=t:=by
 obtain ⟨a1,a2,a3⟩:=ht
 obtain ⟨b1,b2,b3,_,b5⟩:=cel_pos (show 1≤w by omega) (show 1≤d by omega) i
 unfold ixI at hi
 rw [hi] at b5
 obtain ⟨e1,e2⟩:=uniq_mul b1 a1 b5
 obtain ⟨e3,e4⟩:=uniq_mul b2 a2 e1
 generalize cel w d i=e at *
 obtain ⟨x,y,z⟩:=e
 obtain ⟨x', y', z'⟩:=t
 simp only at *
 rw [e2,e3,e4]
theorem pos_at {w d h:Int} {c:List Nat} (hs:ShOK w d h c) {t:C3} {m:Nat} (hm:pos (bdL w d c) t=some m):atN w d h c t.1 t.2.1 t.2.2=colN c m∧colN c m≠0∧insideP w d h t∧m<(bdL w d c).length:=by
 have hL:=pos_some hm
 have hlt:=(List.getElem?_eq_some_iff.1 hL).1
 obtain ⟨i,g1,g2,g3,g4,gx,gy,gz⟩:=col_at hs hL
 have hw1:=hs.1; have hd1:=hs.2.1; have hh1:=hs.2.2.1
 have sz:=sizes hw1 hd1 hh1
 have hhd:h * d≤4 * 8:=Int.mul_le_mul hh1.2 hd1.2 (by omega) (by omega)
 have ix:=ix_le gx gy gz
 refine ⟨?_,g3,⟨gx,gy,gz⟩,hlt⟩
 unfold atN
 rw [if_pos ⟨gx,gy,gz⟩]
 generalize hA:t.2.2 * d=A at *
 rw [wrapI (n:=A) (by omega) (by omega),wrapI (n:=A+_) (by omega) (by omega)] at g4
 generalize hB:(A+t.2.1) * w=B at *
 rw [wrapI (n:=B) (by omega) (by omega),wrapI (by omega) (by omega)] at g4
 rw [g4,Int.toNat_natCast,List.getD_eq_getElem?_getD,g2]
 rfl
theorem at_pos {w d h:Int} {c:List Nat} (hs:ShOK w d h c) {t:C3} (ht:atN w d h c t.1 t.2.1 t.2.2≠0) : ∃ m,pos (bdL w d c) t=some m:=by
 unfold atN at ht
 split at ht
 ·rename_i hin
  have ix:=ix_le hin.1 hin.2.1 hin.2.2
  have hin' : insideP w d h t:=hin
  have hi:(((t.2.2 * d+t.2.1) * w+t.1).toNat:Int)=ixI w d t:=by unfold ixI; omega
  have hc:=cel_ix hin' hi
  generalize ((t.2.2 * d+t.2.1) * w+t.1).toNat=i at *
  have hlen:i<c.length:=by
   refine Decidable.byContradiction fun q=>ht ?_
   rw [List.getD_eq_getElem?_getD,List.getElem?_eq_none (by omega)]
   rfl
  have hmem:t∈bdL w d c:=by
   unfold bdL celL
   rw [List.mem_map]
   exact ⟨i,mem_fi.2 ⟨hlen,ht⟩,hc⟩
  cases hp:pos (bdL w d c) t with
  | some m=>exact ⟨m,rfl⟩
  | none=>exact absurd hmem (pos_none hp)
 ·exact absurd rfl ht
def cellQ (x y z a:Int) (q:Nat):C3:=(x+(q:Int).tmod a,y+(q:Int).tdiv a,z)
theorem fitF_some {L:List C3} {C:Nat→Nat} {col:Nat} {x y z a:Int} : ∀ {n s:Nat},fitF L C col x y z a n=some s→(∀ q,q<n → ∃ m,pos L (cellQ x y z a q)=some m∧C m=col) ∧ ∀ m,s.testBit m=true ↔ ∃ q,q<n∧pos L (cellQ x y z a q)=some m
 | 0,s,h=>by
  simp only [fitF] at h
  cases h
  exact ⟨fun q hq=>by omega,fun m=>by simp⟩
 | n+1,s,h=>by
  simp only [fitF,Option.bind_eq_some_iff] at h
  obtain ⟨s1,h1,m1,h2,h3⟩:=h
  split at h3
  ·rename_i hc
   cases h3
   obtain ⟨g1,g2⟩:=fitF_some h1
   refine ⟨fun q hq=>?_,fun m=>?_⟩
   ·by_cases e:q=n
    ·subst e; exact ⟨m1,h2,hc⟩
    ·exact g1 q (by omega)
   ·rw [Nat.testBit_or,Bool.or_eq_true,g2 m,Nat.one_shiftLeft,Nat.testBit_two_pow]
    constructor
    ·rintro (⟨q,q1,q2⟩ | e)
     ·exact ⟨q,by omega,q2⟩
     ·exact ⟨n,by omega,by rw [show cellQ x y z a n=(x+(n:Int).tmod a,y+(n:Int).tdiv a,z) from rfl,h2]; simpa using e⟩
    ·rintro ⟨q,q1,q2⟩
     by_cases e:q=n
     ·subst e
      rw [show cellQ x y z a q=(x+(q:Int).tmod a,y+(q:Int).tdiv a,z) from rfl,h2] at q2
      cases q2
      exact .inr (by simp)
     ·exact .inl ⟨q,by omega,q2⟩
  ·cases h3
theorem fitF_of {L:List C3} {C:Nat→Nat} {col:Nat} {x y z a:Int} : ∀ {n:Nat},(∀ q,q<n → ∃ m,pos L (cellQ x y z a q)=some m∧C m=col) → ∃ s,fitF L C col x y z a n=some s
 | 0,h=>⟨0,rfl⟩
 | n+1,h=>by
  obtain ⟨s,hs⟩:=fitF_of (n:=n) (fun q hq=>h q (by omega))
  obtain ⟨m,h1,h2⟩:=h n (by omega)
  refine ⟨s ||| 1 <<< m,?_⟩
  simp only [fitF,hs,Option.bind_some]
  rw [show (x+(n:Int).tmod a,y+(n:Int).tdiv a,z)=cellQ x y z a n from rfl,h1]
  simp [h2]
theorem swd_mul (p:Pt) (b:Bool):swd p b * sdp p b=p.1 * p.2.1:=by
 unfold swd sdp
 cases b
 ·rfl
 ·exact Int.mul_comm _ _
theorem cell_of {x y z a b:Int} {n:Nat} (ha:1≤a) (hn:(n:Int)=a * b) {q:Nat} (hq:q<n):(x≤(cellQ x y z a q).1∧(cellQ x y z a q).1<x+a)∧(y≤(cellQ x y z a q).2.1∧(cellQ x y z a q).2.1<y+b)∧(cellQ x y z a q).2.2=z:=by
 unfold cellQ
 simp only
 rw [Int.tmod_eq_emod_of_nonneg (by omega),Int.tdiv_eq_ediv_of_nonneg (by omega)]
 have h1:=Int.emod_nonneg (q:Int) (show a≠0 by omega)
 have h2:=Int.emod_lt_of_pos (q:Int) (show 0<a by omega)
 have h3:0≤(q:Int) / a:=Int.ediv_nonneg (by omega) (by omega)
 have h4:(q:Int) / a<b:=Int.ediv_lt_of_lt_mul (by omega) (by rw [Int.mul_comm]; omega)
 exact ⟨by omega,by omega,trivial⟩
theorem of_cell {x y z a b u v:Int} {n:Nat} (hn:(n:Int)=a * b) (hu:x≤u∧u<x+a) (hv:y≤v∧v<y+b) : ∃ q,q<n∧cellQ x y z a q=(u,v,z):=by
 have h1:(v - y) * a≤(b - 1) * a:=Int.mul_le_mul_of_nonneg_right (by omega) (by omega)
 have h0:0≤(v - y) * a:=Int.mul_nonneg (by omega) (by omega)
 have h2:(b - 1) * a=a * b - a:=by rw [Int.sub_mul,Int.one_mul,Int.mul_comm]
 refine ⟨((v - y) * a+(u - x)).toNat,by omega,?_⟩
 have hq:((((v - y) * a+(u - x)).toNat:Nat):Int)=(v - y) * a+(u - x):=by omega
 unfold cellQ
 rw [hq,Int.tmod_eq_emod_of_nonneg (by omega),Int.tdiv_eq_ediv_of_nonneg (by omega)]
 have hd:(v - y) * a+(u - x)=((v - y) * a+(u - x)) / a * a+((v - y) * a+(u - x)) % a:=by
  have:=Int.mul_ediv_add_emod ((v - y) * a+(u - x)) a
  rw [Int.mul_comm] at this
  exact this.symm
 obtain ⟨e1,e2⟩:=uniq_mul (A:=v - y) (B:=((v - y) * a+(u - x)) / a) (w:=a) (a:=u - x) (b:=((v - y) * a+(u - x)) % a) (by omega) ⟨Int.emod_nonneg _ (by omega),Int.emod_lt_of_pos _ (by omega)⟩ hd
 rw [← e1,← e2]
 congr 1
 ·omega
 ·congr 1; omega
theorem fitS_lies {w d h:Int} {c:List Nat} {l:List Pt} {x:Ld} {p:Pt} {m0:Nat} (hs:ShOK w d h c) (hpt:PtOK l) (hx:0≤x.1) (hp:l[x.1.toNat]? = some p) (hm:pos (bdL w d c) x.2.1=some m0):(∃ s,fitS (bdL w d c) (colN c) p m0 x.2.1 x.2.2=some s)↔liesP w d h c l x:=by
 obtain ⟨c1,c2,c3,c4⟩:=pos_at hs hm
 have hpo:=hpt.2.1 _ p hp
 have hsz:=swd_le hpo x.2.2
 have hxl:=(List.getElem?_eq_some_iff.1 hp).1
 have hnn:((p.1 * p.2.1).toNat:Int)=swd p x.2.2 * sdp p x.2.2:=by
  rw [swd_mul]
  have:0≤p.1 * p.2.1:=Int.mul_nonneg (by have:=hpo.1; omega) (by have:=hpo.2.1; omega)
  omega
 have ea:(if x.2.2=true then p.2.1 else p.1)=swd p x.2.2:=rfl
 constructor
 ·rintro ⟨s,h1⟩
  unfold fitS at h1
  split at h1
  ·cases h1
  rename_i k1
  split at h1
  ·cases h1
  rename_i k2
  rw [ea] at h1
  obtain ⟨f1,f2⟩:=fitF_some h1
  refine ⟨⟨by omega,c3⟩,p,hp,k1,fun y y1 y2 z z1 z2=>?_,by rw [c1]; exact c2,?_⟩
  ·obtain ⟨q,q1,q2⟩:=of_cell (z:=x.2.1.2.2) hnn ⟨z1,z2⟩ ⟨y1,y2⟩
   obtain ⟨m,g1,g2⟩:=f1 q q1
   rw [q2] at g1
   have:=(pos_at hs g1).1
   simp only at this
   rw [this,c1,g2]
  ·rw [c1]
   refine Decidable.byContradiction fun q=>k2 ⟨fun e=>q (.inl e),fun e=>q (.inr e)⟩
 ·rintro ⟨_,p', hp', k1,k2,k3,k4⟩
  rw [hp] at hp'
  cases hp'
  unfold fitS
  rw [if_neg k1,if_neg (by rw [c1] at k4; rintro ⟨q1,q2⟩; exact k4.elim q1 q2),ea]
  refine fitF_of fun q hq=>?_
  obtain ⟨z1,y1,e1⟩:=cell_of (x:=x.2.1.1) (y:=x.2.1.2.1) (z:=x.2.1.2.2) hsz.1.1 hnn hq
  have hat:=k2 _ y1.1 y1.2 _ z1.1 z1.2
  rw [c1] at hat
  have hne:atN w d h c (cellQ x.2.1.1 x.2.1.2.1 x.2.1.2.2 (swd p x.2.2) q).1 (cellQ x.2.1.1 x.2.1.2.1 x.2.1.2.2 (swd p x.2.2) q).2.1 (cellQ x.2.1.1 x.2.1.2.1 x.2.1.2.2 (swd p x.2.2) q).2.2=colN c m0:=by rw [e1]; exact hat
  obtain ⟨m,hm'⟩:=at_pos hs (by rw [hne]; exact c2)
  exact ⟨m,hm', by rw [← (pos_at hs hm').1,hne]⟩
theorem onePc_mem {L:List C3} {C:Nat→Nat} {l:List Pt} {k:Nat} {t:C3} {i:Nat} {b:Bool} {y:Pc}:y∈onePc L C l k t i b ↔ ∃ p s,l[i]? = some p∧fitS L C p k t b=some s∧y=(i,t,b,s,tchN L s):=by
 unfold onePc
 constructor
 ·intro h
  split at h
  ·rename_i p hp
   split at h
   ·rename_i s hs
    exact ⟨p,s,hp,hs,by simpa using h⟩
   ·simp at h
  ·simp at h
 ·rintro ⟨p,s,h1,h2,rfl⟩
  rw [h1]
  simp [h2]
theorem allPc_mem {L:List C3} {C:Nat→Nat} {l:List Pt} {y:Pc}:y∈allPc L C l L.length ↔ ∃ k p s,L[k]? = some y.2.1∧l[y.1]? = some p∧fitS L C p k y.2.1 y.2.2.1=some s∧y.2.2.2=(s,tchN L s):=by
 unfold allPc
 rw [List.mem_flatMap]
 constructor
 ·rintro ⟨k,hk,h⟩
  unfold cellPc at h
  split at h
  ·rename_i t ht
   unfold upPc at h
   rw [List.mem_flatMap] at h
   obtain ⟨i,hi,h⟩:=h
   unfold plPc at h
   rcases List.mem_append.1 h with h | h <;>
   ·obtain ⟨p,s,h1,h2,rfl⟩:=onePc_mem.1 h
    exact ⟨k,p,s,ht,h1,h2,rfl⟩
  ·simp at h
 ·rintro ⟨k,p,s,h1,h2,h3,h4⟩
  refine ⟨k,List.mem_range.2 (List.getElem?_eq_some_iff.1 h1).1,?_⟩
  unfold cellPc
  rw [h1]
  simp only
  unfold upPc
  rw [List.mem_flatMap]
  refine ⟨y.1,List.mem_range.2 (List.getElem?_eq_some_iff.1 h2).1,?_⟩
  unfold plPc
  rw [List.mem_append]
  obtain ⟨i,t,b,e⟩:=y
  simp only at *
  subst h4
  cases b with
  | false=>exact .inl (onePc_mem.2 ⟨p,s,h2,h3,rfl⟩)
  | true=>exact .inr (onePc_mem.2 ⟨p,s,h2,h3,rfl⟩)
theorem bd_nodup {w d h:Int} {c:List Nat} (hs:ShOK w d h c):(bdL w d c).Nodup:=celL_nodup hs.1.1 hs.2.1.1 c _
theorem pos_inj {L:List C3} {t t' : C3} {m:Nat} (h:pos L t=some m) (h' : pos L t' = some m):t=t' := by
 have:=pos_some h
 rw [pos_some h'] at this
 exact (Option.some.inj this).symm
theorem piece_of {w d h:Int} {c:List Nat} {l:List Pt} {y:Pc} (hs:ShOK w d h c) (hpt:PtOK l) (hy:y∈allPc (bdL w d c) (colN c) l (bdL w d c).length) : ∃ k p,pos (bdL w d c) y.2.1=some k∧l[y.1]? = some p∧POK p∧fitS (bdL w d c) (colN c) p k y.2.1 y.2.2.1=some y.2.2.2.1 ∧
  ∀ m,y.2.2.2.1.testBit m=true ↔ ∃ q,q<(p.1 * p.2.1).toNat∧pos (bdL w d c) (cellQ y.2.1.1 y.2.1.2.1 y.2.1.2.2 (swd p y.2.2.1) q)=some m:=by
 obtain ⟨k,p,s,h1,h2,h3,h4⟩:=allPc_mem.1 hy
 have hk:=pos_of (bd_nodup hs) h1
 have e:y.2.2.2.1=s:=by rw [h4]
 refine ⟨k,p,hk,h2,hpt.2.1 _ p h2,by rw [e]; exact h3,?_⟩
 rw [e]
 unfold fitS at h3
 split at h3
 ·cases h3
 split at h3
 ·cases h3
 exact (fitF_some h3).2
theorem area_nn {p:Pt} (hp:POK p) (b:Bool):((p.1 * p.2.1).toNat:Int)=swd p b * sdp p b:=by
 rw [swd_mul]
 have:0≤p.1 * p.2.1:=Int.mul_nonneg (by have:=hp.1; omega) (by have:=hp.2.1; omega)
 omega
theorem mask_has {w d h:Int} {c:List Nat} {l:List Pt} {y:Pc} {t:C3} {m:Nat} (hs:ShOK w d h c) (hpt:PtOK l) (hy:y∈allPc (bdL w d c) (colN c) l (bdL w d c).length) (hm:pos (bdL w d c) t=some m):y.2.2.2.1.testBit m=hasL l (ldP y) t.1 t.2.1 t.2.2:=by
 obtain ⟨k,p,h1,h2,h3,h4,h5⟩:=piece_of hs hpt hy
 have hsz:=swd_le h3 y.2.2.1
 have hn:=area_nn h3 y.2.2.1
 have e:hasL l (ldP y) t.1 t.2.1 t.2.2=hasB p (ldP y) t.1 t.2.1 t.2.2:=by unfold hasL ldP; rw [Int.toNat_natCast,h2]
 rw [e,Bool.eq_iff_iff,h5 m]
 unfold hasB ldP
 simp only [Bool.and_eq_true,beq_iff_eq,decide_eq_true_eq]
 constructor
 ·rintro ⟨q,q1,q2⟩
  have ht:=pos_inj hm q2
  obtain ⟨z1,y1,e1⟩:=cell_of (x:=y.2.1.1) (y:=y.2.1.2.1) (z:=y.2.1.2.2) hsz.1.1 hn q1
  rw [← ht] at z1 y1 e1
  exact ⟨e1,by omega,by omega,by omega,by omega⟩
 ·rintro ⟨e1,e2,e3,e4,e5⟩
  obtain ⟨q,q1,q2⟩:=of_cell (x:=y.2.1.1) (y:=y.2.1.2.1) (z:=y.2.1.2.2) (u:=t.1) (v:=t.2.1) hn (by omega) (by omega)
  refine ⟨q,q1,?_⟩
  rw [q2,← e1]
  exact hm
theorem ix_fi {w d h:Int} {c:List Nat} (hs:ShOK w d h c) {t:C3} {m:Nat} (hm:pos (bdL w d c) t=some m) : ∃ i,(fi c c.length)[m]? = some i∧(i:Int)=ixI w d t:=by
 obtain ⟨i,h1,h2⟩:=celL_at (pos_some hm)
 have:=(cel_pos hs.1.1 hs.2.1.1 i).2.2.2.2
 rw [h2] at this
 exact ⟨i,h1,this.symm⟩
theorem fi_sorted (c:List Nat) (k:Nat):(fi c k).Pairwise (· < ·):=List.pairwise_lt_range.filter _
theorem pos_mono {w d h:Int} {c:List Nat} (hs:ShOK w d h c) {t t' : C3} {m m' : Nat} (hm:pos (bdL w d c) t=some m) (hm' : pos (bdL w d c) t' = some m'):m<m' ↔ ixI w d t<ixI w d t' := by
 obtain ⟨i,h1,h2⟩:=ix_fi hs hm
 obtain ⟨i', h1', h2'⟩:=ix_fi hs hm'
 obtain ⟨a1,a2⟩:=List.getElem?_eq_some_iff.1 h1
 obtain ⟨b1,b2⟩:=List.getElem?_eq_some_iff.1 h1'
 have key : ∀ a b (ha:a<(fi c c.length).length) (hb:b<(fi c c.length).length),a<b→(fi c c.length)[a]<(fi c c.length)[b]:=fun a b ha hb hab=>List.pairwise_iff_getElem.1 (fi_sorted c c.length) a b ha hb hab
 constructor
 ·intro q
  have:=key m m' a1 b1 q
  omega
 ·intro q
  rcases Nat.lt_trichotomy m m' with r | r | r
  ·exact r
  ·subst r; rw [h1] at h1'; cases h1'; omega
  ·have:=key m' m b1 a1 r
   omega
theorem low_mask {w d h:Int} {c:List Nat} {l:List Pt} {y:Pc} {k:Nat} (hs:ShOK w d h c) (hpt:PtOK l) (hy:y∈allPc (bdL w d c) (colN c) l (bdL w d c).length) (hk:pos (bdL w d c) y.2.1=some k):lowB y.2.2.2.1=k∧y.2.2.2.1.testBit k=true∧y.2.2.2.1≠0:=by
 obtain ⟨k', p,h1,h2,h3,h4,h5⟩:=piece_of hs hpt hy
 rw [hk] at h1
 cases h1
 have hsz:=swd_le h3 y.2.2.1
 have hn:=area_nn h3 y.2.2.1
 have hlen:=celL_len hs
 have hlt:=(all_lt (by unfold bdL; omega) hy).2
 have hb:y.2.2.2.1.testBit k=true:=by
  obtain ⟨q,q1,q2⟩:=of_cell (x:=y.2.1.1) (y:=y.2.1.2.1) (z:=y.2.1.2.2) (u:=y.2.1.1) (v:=y.2.1.2.1) hn (by omega) (by omega)
  exact (h5 k).2 ⟨q,q1,by rw [q2]; exact hk⟩
 have h0:y.2.2.2.1≠0:=fun e=>by rw [e] at hb; simp at hb
 refine ⟨?_,hb,h0⟩
 obtain ⟨l1,l2⟩:=lowB_lt h0 hlt
 have hle:lowB y.2.2.2.1≤k:=by
  refine Nat.le_of_not_lt fun q=>?_
  have:=lowB_min q
  rw [hb] at this
  cases this
 have hge : ¬ lowB y.2.2.2.1<k:=fun q=>by
  obtain ⟨r,r1,r2⟩:=(h5 _).1 l2
  have hlt:=(pos_mono hs r2 hk).1 q
  obtain ⟨z1,y1,e1⟩:=cell_of (x:=y.2.1.1) (y:=y.2.1.2.1) (z:=y.2.1.2.2) hsz.1.1 hn r1
  have hin:=(pos_at hs r2).2.2.1
  have hin0:=(pos_at hs hk).2.2.1
  unfold ixI at hlt
  rw [e1] at hlt
  generalize cellQ y.2.1.1 y.2.1.2.1 y.2.1.2.2 (swd p y.2.2.1) r=e at *
  have hd:=hs.1
  by_cases g:e.2.1=y.2.1.2.1
  ·rw [g] at hlt; omega
  ·have:=Int.mul_le_mul_of_nonneg_right (show y.2.1.2.2 * d+y.2.1.2.1+1≤y.2.1.2.2 * d+e.2.1 by omega) (show 0≤w by omega)
   rw [Int.add_mul (y.2.1.2.2 * d+y.2.1.2.1),Int.one_mul] at this
   have:=hin.1; have:=hin0.1
   omega
 omega
theorem byF_pos {l:List Pt} {a b e:Int} : ∀ {cs:List Ld} {i:Nat} {y:Int},0≤y→(0≤byF l a b e cs i y ↔ ∀ x∈cs,hasL l x a b e=false)
 | [],i,y,h=>by simp [byF,h]
 | x::cs,i,y,h=>by
  unfold byF
  by_cases q:hasL l x a b e=true
  ·rw [if_pos q,if_neg (by omega)]
   constructor
   ·intro g; omega
   ·intro g
    have:=g x (List.mem_cons_self ..)
    rw [q] at this
    cases this
  ·rw [if_neg q,byF_pos h]
   have q:hasL l x a b e=false:=by simpa using q
   simp [q]
theorem byF_neg {l:List Pt} {a b e:Int} : ∀ {cs:List Ld} {i:Nat},0≤byF l a b e cs i (-1) ↔ ∃ (j:Nat) (x:Ld),cs[j]? = some x∧hasL l x a b e=true ∧ ∀ (j' : Nat) (x' : Ld),cs[j']? = some x' → hasL l x' a b e=true→j' = j
 | [],i=>by simp [byF]
 | x::cs,i=>by
  unfold byF
  by_cases q:hasL l x a b e=true
  ·rw [if_pos q,if_pos rfl,byF_pos (by omega)]
   constructor
   ·intro g
    refine ⟨0,x,rfl,q,fun j' x' h1 h2=>?_⟩
    cases j' with
    | zero=>rfl
    | succ j' =>
     have:=g x' (List.mem_of_getElem? (by simpa using h1))
     rw [h2] at this
     cases this
   ·rintro ⟨j,z,h1,h2,h3⟩ z' hz'
    obtain ⟨n,hn⟩:=List.getElem?_of_mem hz'
    have e0:=h3 0 x rfl q
    cases hh:hasL l z' a b e with
    | false=>rfl
    | true =>
     have:=h3 (n+1) z' (by simpa using hn) hh
     omega
  ·rw [if_neg q,byF_neg (cs:=cs)]
   constructor
   ·rintro ⟨j,z,h1,h2,h3⟩
    refine ⟨j+1,z,by simpa using h1,h2,fun j' x' g1 g2=>?_⟩
    cases j' with
    | zero =>
     simp at g1
     subst g1
     exact absurd g2 q
    | succ j' => rw [h3 j' x' (by simpa using g1) g2]
   ·rintro ⟨j,z,h1,h2,h3⟩
    cases j with
    | zero =>
     simp at h1
     subst h1
     exact absurd h2 q
    | succ j =>
     refine ⟨j,z,by simpa using h1,h2,fun j' x' g1 g2=>?_⟩
     have:=h3 (j' + 1) x' (by simpa using g1) g2
     omega
theorem byI_iff {l:List Pt} {a b e:Int} {cs:List Ld}:0≤byI l cs a b e ↔ ∃ (j:Nat) (x:Ld),cs[j]? = some x∧hasL l x a b e=true ∧ ∀ (j' : Nat) (x' : Ld),cs[j']? = some x' → hasL l x' a b e=true→j' = j:=byF_neg
theorem piece_inj {w d h:Int} {c:List Nat} {l:List Pt} {y y' : Pc} (hs:ShOK w d h c) (hy:y∈allPc (bdL w d c) (colN c) l (bdL w d c).length) (hy' : y' ∈ allPc (bdL w d c) (colN c) l (bdL w d c).length) (e:ldP y=ldP y'):y=y' := by
 obtain ⟨k,p,s,h1,h2,h3,h4⟩:=allPc_mem.1 hy
 obtain ⟨k', p', s', h1', h2', h3', h4'⟩:=allPc_mem.1 hy'
 obtain ⟨i,t,b,r⟩:=y
 obtain ⟨i', t', b', r'⟩:=y'
 unfold ldP at e
 simp only at *
 have e1:i=i' := by have:=congrArg Prod.fst e; simp only at this; omega
 have e2:t=t' := congrArg (fun x=>x.2.1) e
 have e3:b=b' := congrArg (fun x=>x.2.2) e
 subst e1 e2 e3
 have a:=pos_of (bd_nodup hs) h1
 rw [pos_of (bd_nodup hs) h1'] at a
 cases a
 rw [h2] at h2'
 cases h2'
 rw [h3] at h3'
 cases h3'
 rw [h4,h4']
theorem look_eq {w d h:Int} {c:List Nat} {l:List Pt} {y:Pc} (hs:ShOK w d h c) (hy:y∈allPc (bdL w d c) (colN c) l (bdL w d c).length):look (allPc (bdL w d c) (colN c) l (bdL w d c).length) (ldP y)=some y:=by
 unfold look
 cases hf:(allPc (bdL w d c) (colN c) l (bdL w d c).length).find? fun z=>decide (sameD (ldP y) z) with
 | none =>
  rw [List.find?_eq_none] at hf
  have:=hf y hy
  exact absurd (decide_eq_true ⟨rfl,rfl,rfl⟩) this
 | some z =>
  have h1:sameD (ldP y) z:=by have:=List.find?_some hf; exact of_decide_eq_true this
  have h2:=List.mem_of_find?_eq_some hf
  rw [piece_inj hs hy h2 (by
   obtain ⟨e1,e2,e3⟩:=h1
   unfold ldP at *
   simp only at *
   rw [e1,e2,e3])]
theorem piece_for {w d h:Int} {c:List Nat} {l:List Pt} {x:Ld} (hs:ShOK w d h c) (hpt:PtOK l) (hx:liesP w d h c l x) : ∃ y∈allPc (bdL w d c) (colN c) l (bdL w d c).length,ldP y=x:=by
 obtain ⟨⟨a1,a2⟩,p,hp,b1,b2,b3,b4⟩:=id hx
 obtain ⟨m0,hm⟩:=at_pos hs (t:=x.2.1) b3
 obtain ⟨s,hf⟩:=(fitS_lies hs hpt a1.1 hp hm).2 hx
 refine ⟨(x.1.toNat,x.2.1,x.2.2,s,tchN (bdL w d c) s),allPc_mem.2 ⟨m0,p,s,pos_some hm,hp,hf,rfl⟩,?_⟩
 unfold ldP
 simp only
 rw [show ((x.1.toNat:Nat):Int)=x.1 by omega]
theorem piece_lies {w d h:Int} {c:List Nat} {l:List Pt} {y:Pc} (hs:ShOK w d h c) (hpt:PtOK l) (hy:y∈allPc (bdL w d c) (colN c) l (bdL w d c).length):liesP w d h c l (ldP y):=by
 obtain ⟨k,p,h1,h2,h3,h4,h5⟩:=piece_of hs hpt hy
 exact (fitS_lies (x:=ldP y) (p:=p) (m0:=k) hs hpt (by unfold ldP; simp) (by unfold ldP; simpa using h2) h1).1 ⟨_,h4⟩
theorem pieces_for {w d h:Int} {c:List Nat} {l:List Pt} (hs:ShOK w d h c) (hpt:PtOK l) : ∀ {cs:List Ld},(∀ x∈cs,liesP w d h c l x) → ∃ ps:List Pc,ps.map ldP=cs ∧ ∀ y∈ps,y∈allPc (bdL w d c) (colN c) l (bdL w d c).length
 | [],_=>⟨[],rfl,fun y hy=>by cases hy⟩
 | x::cs,h=>by
  obtain ⟨ps,h1,h2⟩:=pieces_for hs hpt (cs:=cs) (fun z hz=>h z (List.mem_cons_of_mem _ hz))
  obtain ⟨y,h3,h4⟩:=piece_for hs hpt (h x (List.mem_cons_self ..))
  refine ⟨y::ps,by rw [List.map_cons,h1,h4],fun z hz=>?_⟩
  rcases List.mem_cons.1 hz with q | q
  ·rw [q]; exact h3
  ·exact h2 z q
end Go.Proofs.YtkkgicjioajimaaDoor
