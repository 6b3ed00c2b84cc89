/- A part of the proof. -/
import Derived.Test.YtkkgicjioajimaaDoorProg
import Derived.ProofKit
import Derived.Deep.Slices
import Derived.Carry
import Derived.OpenShut
import Derived.MakeChecks
import Derived.FnData
import Derived.Deep.Strs
import Derived.Test.YtkkgicjioajimaaDoorXA5G7
import Derived.Test.YtkkgicjioajimaaDoorXA5G9
import Derived.Test.YtkkgicjioajimaaDoorXA5G10
import Derived.Test.YtkkgicjioajimaaDoorXA5G13
import Derived.Test.YtkkgicjioajimaaDoorXA5G14
import Derived.Test.YtkkgicjioajimaaDoorXA5G16
namespace Go.Proofs.YtkkgicjioajimaaDoor
open Go Go.Proofs.YtkkgicjioajimaaDoor.Clean
set_option linter.unusedVariables false
set_option linter.unusedSimpArgs false
set_option maxRecDepth 10000
theorem hcE:cfE.ok Tryd.prog:=by
 have h:(cfgM Tryd.prog glX (fun _=>0) (fun _=>none) (inN []) kpE).ok Tryd.prog:=cfgM_ok
 exact ⟨h.1,h.2⟩
theorem step34 {w:Int} {y k:Nat} (h:k<w.toNat):gcl w (y * w.toNat+k+1)=List.take (y * w.toNat+k) (gcl w (y * w.toNat+k))++[[iv (k:Int),iv (y:Int),iv 0]]∧gkn w (y * w.toNat+k+1)=List.take (2 * (y * w.toNat+k)) (gkn w (y * w.toNat+k))++[[iv (k:Int),iv (y:Int),iv 0,u8v 4,u8v 1],[iv (k:Int),iv (y:Int),iv 0,u8v 5,u8v 2]]:=by
 rw [take_len (gcl_len _ _),take_len (gkn_len _ _),gcl_snoc,gkn_snoc,grid_mod h,grid_div h]
 exact ⟨rfl,rfl⟩
noncomputable def kYnB (l:List Pt) (k:Nat) (w a:Int) (y n:Nat):Bool→St
 | false=>kYn0 l k a y
 | true=>kYn1 l k w a y n
noncomputable def kXnB (l:List Pt) (k:Nat) (w a:Int) (y n:Nat) (x:Nat):Bool→St
 | false=>kXn0 l k a y x
 | true=>kXn1 l k w a y n x
noncomputable def kYsB (l:List Pt) (q:List Pt) (k:Nat) (w a:Int) (y n:Nat):Bool→St
 | false=>kYs0 l q k a y
 | true=>kYs1 l q k w a y n
noncomputable def kXsB (l:List Pt) (q:List Pt) (k:Nat) (w a:Int) (y n:Nat) (x:Nat):Bool→St
 | false=>kXs0 l q k a y x
 | true=>kXs1 l q k w a y n x
theorem loop34n {l:List Pt} {k:Nat} {t:Pt} {a:Int} {R:V→Prop} {J:St→Prop} (ht:l[k]? = some t) (hp:POK t) (hJ : ∀ n:Nat,n=t.2.1.toNat * t.1.toNat→J ⟨mkT [(0,V.lst 4 (ptl l)),(4,V.sl (Id.p 0) 0 1),(5,iv (IntKind.i64.wrap ((k:Int)+(1:Int))))],⟨[(0,O.rows 3 true [[V.lst 3 (gcl t.1 n),V.lst 5 (gkn t.1 n),iv a]])],1,[]⟩⟩):La 0 [(0:Tmp),(4:Tmp),(5:Tmp),(6:Tmp),(7:Tmp),(6000000:Tmp)] (WY Tryd.prog cfE 2984 (Env.mk (Bs.mk 0 []) 0 none 84 34 2) (cdAt [1,1,1,0,1,0,0,1,0,0,1,1,0,1,0,0] (bodyOf Tryd.f34))) (Qblk 2 (Qthen (WY Tryd.prog cfE 2987 (Env.mk (Bs.mk 0 []) 0 none 84 34 1) (cdAt [1,1,1,0,1,0,0,1,0,0,1,1,1] (bodyOf Tryd.f34)) (Qblk 1 (Qthen (WY Tryd.prog cfE 2991 (Env.mk (Bs.mk 0 []) 0 none 84 34 0) (cdAt [1,1,1,0,1,0,0,1,1] (bodyOf Tryd.f34)) (Qla 0 [(0:Tmp),(4:Tmp),(5:Tmp),(6000000:Tmp)] J (Qblk 0 (Qthen (WY Tryd.prog cfE 2996 (Env.mk (Bs.mk 0 []) 0 none 84 34 0) (cdAt [1,1,1,1] (bodyOf Tryd.f34)) (QendX Tryd.prog Tryd.f34 fun v h=>R (frzW h v))) (QendX Tryd.prog Tryd.f34 fun v h=>R (frzW h v)))))) (Qla 0 [(0:Tmp),(4:Tmp),(5:Tmp),(6000000:Tmp)] J (Qblk 0 (Qthen (WY Tryd.prog cfE 2996 (Env.mk (Bs.mk 0 []) 0 none 84 34 0) (cdAt [1,1,1,1] (bodyOf Tryd.f34)) (QendX Tryd.prog Tryd.f34 fun v h=>R (frzW h v))) (QendX Tryd.prog Tryd.f34 fun v h=>R (frzW h v)))))))) (Qblk 1 (Qthen (WY Tryd.prog cfE 2991 (Env.mk (Bs.mk 0 []) 0 none 84 34 0) (cdAt [1,1,1,0,1,0,0,1,1] (bodyOf Tryd.f34)) (Qla 0 [(0:Tmp),(4:Tmp),(5:Tmp),(6000000:Tmp)] J (Qblk 0 (Qthen (WY Tryd.prog cfE 2996 (Env.mk (Bs.mk 0 []) 0 none 84 34 0) (cdAt [1,1,1,1] (bodyOf Tryd.f34)) (QendX Tryd.prog Tryd.f34 fun v h=>R (frzW h v))) (QendX Tryd.prog Tryd.f34 fun v h=>R (frzW h v)))))) (Qla 0 [(0:Tmp),(4:Tmp),(5:Tmp),(6000000:Tmp)] J (Qblk 0 (Qthen (WY Tryd.prog cfE 2996 (Env.mk (Bs.mk 0 []) 0 none 84 34 0) (cdAt [1,1,1,1] (bodyOf Tryd.f34)) (QendX Tryd.prog Tryd.f34 fun v h=>R (frzW h v))) (QendX Tryd.prog Tryd.f34 fun v h=>R (frzW h v))))))))) (kYn0 l k a 0):=by
 obtain ⟨⟨x1,x2⟩,⟨x3,x4⟩,_,_⟩:=hp
 obtain ⟨w,hw⟩ : ∃ w:Int,w=t.1:=⟨_,rfl⟩
 have hW:((w.toNat:Nat):Int)=t.1:=by rw [hw]; exact Int.toNat_of_nonneg (by omega)
 have hD:((t.2.1.toNat:Nat):Int)=t.2.1:=Int.toNat_of_nonneg (by omega)
 have hW8:w.toNat≤8:=by omega
 refine La.of (σ:=Bool×Nat×Nat) (fun s=>kYnB l k w a s.2.1 s.2.2 s.1) (fun s=>(s.2.1:Int)≤t.2.1∧s.2.2=s.2.1 * w.toNat∧(s.1=false→s.2.2=0)) (fun s=>t.2.1.toNat - s.2.1) (false,0,0) (by kernel_rfl) ⟨by simp only; omega,by simp,fun _=>rfl⟩ ?_
 rintro ⟨b,y,n⟩ ⟨k1,k2,k3⟩ J2 hJ2
 simp only at k1 k2 k3
 cases b with
 | false =>
  have k3:=k3 rfl
  refine see (p:=onSome (ptl l)[k]? fun row=>onSome row[1]? fun v=>onIntK IntKind.i64 v fun n=>ifB (decide ((↑y:Int)<n)) (La 0 [(0:Tmp),(4:Tmp),(5:Tmp),(6:Tmp),(7:Tmp),(8:Tmp),(6000000:Tmp)] (WY Tryd.prog cfE 2978 (Env.mk (Bs.mk 0 []) 0 none 84 34 4) (cdAt [1,1,1,0,1,0,0,1,0,0,1,1,0,1,0,0,1,0,0,1,0,0] (bodyOf Tryd.f34))) (Qblk 4 (Qblk 3 (Qthen (WY Tryd.prog cfE 2982 (Env.mk (Bs.mk 0 []) 0 none 84 34 2) (cdAt [1,1,1,0,1,0,0,1,0,0,1,1,0,1,0,0,1,1] (bodyOf Tryd.f34)) (Qla 0 [(0:Tmp),(4:Tmp),(5:Tmp),(6:Tmp),(7:Tmp),(6000000:Tmp)] J2 (Qblk 2 (Qthen (WY Tryd.prog cfE 2987 (Env.mk (Bs.mk 0 []) 0 none 84 34 1) (cdAt [1,1,1,0,1,0,0,1,0,0,1,1,1] (bodyOf Tryd.f34)) (Qblk 1 (Qthen (WY Tryd.prog cfE 2991 (Env.mk (Bs.mk 0 []) 0 none 84 34 0) (cdAt [1,1,1,0,1,0,0,1,1] (bodyOf Tryd.f34)) (Qla 0 [(0:Tmp),(4:Tmp),(5:Tmp),(6000000:Tmp)] J (Qblk 0 (Qthen (WY Tryd.prog cfE 2996 (Env.mk (Bs.mk 0 []) 0 none 84 34 0) (cdAt [1,1,1,1] (bodyOf Tryd.f34)) (QendX Tryd.prog Tryd.f34 fun v h=>R (frzW h v))) (QendX Tryd.prog Tryd.f34 fun v h=>R (frzW h v)))))) (Qla 0 [(0:Tmp),(4:Tmp),(5:Tmp),(6000000:Tmp)] J (Qblk 0 (Qthen (WY Tryd.prog cfE 2996 (Env.mk (Bs.mk 0 []) 0 none 84 34 0) (cdAt [1,1,1,1] (bodyOf Tryd.f34)) (QendX Tryd.prog Tryd.f34 fun v h=>R (frzW h v))) (QendX Tryd.prog Tryd.f34 fun v h=>R (frzW h v)))))))) (Qblk 1 (Qthen (WY Tryd.prog cfE 2991 (Env.mk (Bs.mk 0 []) 0 none 84 34 0) (cdAt [1,1,1,0,1,0,0,1,1] (bodyOf Tryd.f34)) (Qla 0 [(0:Tmp),(4:Tmp),(5:Tmp),(6000000:Tmp)] J (Qblk 0 (Qthen (WY Tryd.prog cfE 2996 (Env.mk (Bs.mk 0 []) 0 none 84 34 0) (cdAt [1,1,1,1] (bodyOf Tryd.f34)) (QendX Tryd.prog Tryd.f34 fun v h=>R (frzW h v))) (QendX Tryd.prog Tryd.f34 fun v h=>R (frzW h v)))))) (Qla 0 [(0:Tmp),(4:Tmp),(5:Tmp),(6000000:Tmp)] J (Qblk 0 (Qthen (WY Tryd.prog cfE 2996 (Env.mk (Bs.mk 0 []) 0 none 84 34 0) (cdAt [1,1,1,1] (bodyOf Tryd.f34)) (QendX Tryd.prog Tryd.f34 fun v h=>R (frzW h v))) (QendX Tryd.prog Tryd.f34 fun v h=>R (frzW h v))))))))))) (Qla 0 [(0:Tmp),(4:Tmp),(5:Tmp),(6:Tmp),(7:Tmp),(6000000:Tmp)] J2 (Qblk 2 (Qthen (WY Tryd.prog cfE 2987 (Env.mk (Bs.mk 0 []) 0 none 84 34 1) (cdAt [1,1,1,0,1,0,0,1,0,0,1,1,1] (bodyOf Tryd.f34)) (Qblk 1 (Qthen (WY Tryd.prog cfE 2991 (Env.mk (Bs.mk 0 []) 0 none 84 34 0) (cdAt [1,1,1,0,1,0,0,1,1] (bodyOf Tryd.f34)) (Qla 0 [(0:Tmp),(4:Tmp),(5:Tmp),(6000000:Tmp)] J (Qblk 0 (Qthen (WY Tryd.prog cfE 2996 (Env.mk (Bs.mk 0 []) 0 none 84 34 0) (cdAt [1,1,1,1] (bodyOf Tryd.f34)) (QendX Tryd.prog Tryd.f34 fun v h=>R (frzW h v))) (QendX Tryd.prog Tryd.f34 fun v h=>R (frzW h v)))))) (Qla 0 [(0:Tmp),(4:Tmp),(5:Tmp),(6000000:Tmp)] J (Qblk 0 (Qthen (WY Tryd.prog cfE 2996 (Env.mk (Bs.mk 0 []) 0 none 84 34 0) (cdAt [1,1,1,1] (bodyOf Tryd.f34)) (QendX Tryd.prog Tryd.f34 fun v h=>R (frzW h v))) (QendX Tryd.prog Tryd.f34 fun v h=>R (frzW h v)))))))) (Qblk 1 (Qthen (WY Tryd.prog cfE 2991 (Env.mk (Bs.mk 0 []) 0 none 84 34 0) (cdAt [1,1,1,0,1,0,0,1,1] (bodyOf Tryd.f34)) (Qla 0 [(0:Tmp),(4:Tmp),(5:Tmp),(6000000:Tmp)] J (Qblk 0 (Qthen (WY Tryd.prog cfE 2996 (Env.mk (Bs.mk 0 []) 0 none 84 34 0) (cdAt [1,1,1,1] (bodyOf Tryd.f34)) (QendX Tryd.prog Tryd.f34 fun v h=>R (frzW h v))) (QendX Tryd.prog Tryd.f34 fun v h=>R (frzW h v)))))) (Qla 0 [(0:Tmp),(4:Tmp),(5:Tmp),(6000000:Tmp)] J (Qblk 0 (Qthen (WY Tryd.prog cfE 2996 (Env.mk (Bs.mk 0 []) 0 none 84 34 0) (cdAt [1,1,1,1] (bodyOf Tryd.f34)) (QendX Tryd.prog Tryd.f34 fun v h=>R (frzW h v))) (QendX Tryd.prog Tryd.f34 fun v h=>R (frzW h v))))))))))))) (St.mk (mkT [(0,V.lst 4 (ptl l)),(4,nilS),(5,iv (↑k:Int)),(6,V.ptr (Id.p 0) 0 0),(7,iv (↑y:Int)),(8,iv (0:Int))]) (Hp.mk [(0,O.rows 3 false [[nilS,nilS,iv a]])] 1 []))) (J (St.mk (mkT [(0,V.lst 4 (ptl l)),(4,V.sl (Id.p 0) 0 1),(5,iv (IntKind.i64.wrap ((↑k:Int)+(1:Int))))]) (Hp.mk [(0,O.rows 3 true [[nilS,nilS,iv a]])] 1 [])))) (by kernel_rfl) ?_
  refine onSome_mk (ptl_get ht) (onSome_mk (x:=iv t.2.1) rfl (onIntK_iv (ifB_mk (fun e=>?_) (fun e=>?_))))
  ·have e:=of_decide_eq_true e
   refine La.of (σ:=Bool×Nat×Nat) (fun s=>kXnB l k w a y s.2.2 s.2.1 s.1) (fun s=>s.2.1≤w.toNat∧s.2.2=y * w.toNat+s.2.1∧(s.1=false→s.2.2=0)) (fun s=>w.toNat - s.2.1) (false,0,n) (by kernel_rfl) ⟨Nat.zero_le _,by simp only; omega,fun _=>k3⟩ ?_
   rintro ⟨b,x,n⟩ ⟨m1,m2,m3⟩ J3 hJ3
   simp only at m1 m2 m3
   have hyW:y * w.toNat≤7 * 8:=Nat.mul_le_mul (by omega) hW8
   cases b with
   | false =>
    have m3:=m3 rfl
    refine see (p:=onSome (ptl l)[k]? fun row=>onSome row[0]? fun v=>onIntK IntKind.i64 v fun n=>ifB (decide ((↑x:Int)<n)) (J3 (St.mk (mkT [(0,V.lst 4 (ptl l)),(4,nilS),(5,iv (↑k:Int)),(6,V.ptr (Id.p 0) 0 0),(7,iv (↑y:Int)),(8,iv (IntKind.i64.wrap ((↑x:Int)+(1:Int))))]) (Hp.mk [(0,O.rows 3 false [[V.sl (Id.p 1) 0 1,V.sl (Id.p 2) 0 2,iv a]]),(1,O.rows 3 true [[iv (↑x:Int),iv (↑y:Int),iv (0:Int)]]),(2,O.rows 5 true [[iv (↑x:Int),iv (↑y:Int),iv (0:Int),V.raw (Value.int IntKind.u8 (4:Int)),V.raw (Value.int IntKind.u8 (1:Int))],[iv (↑x:Int),iv (↑y:Int),iv (0:Int),V.raw (Value.int IntKind.u8 (5:Int)),V.raw (Value.int IntKind.u8 (2:Int))]])] 3 []))) (J2 (St.mk (mkT [(0,V.lst 4 (ptl l)),(4,nilS),(5,iv (↑k:Int)),(6,V.ptr (Id.p 0) 0 0),(7,iv (IntKind.i64.wrap ((↑y:Int)+(1:Int))))]) (Hp.mk [(0,O.rows 3 false [[nilS,nilS,iv a]])] 1 [])))) (by kernel_rfl) ?_
    refine onSome_mk (ptl_get ht) (onSome_mk (x:=iv t.1) rfl (onIntK_iv (ifB_mk (fun c=>?_) (fun c=>?_))))
    ·have c:x<w.toNat:=by have:=of_decide_eq_true c; omega
     have st:=step34 (w:=w) (y:=y) (k:=x) c
     rw [← m2,m3] at st
     rw [wr (n:=(x:Int)+1) (by omega) (by omega)]
     refine hJ' ?_ (hJ3 (true,x+1,1) ⟨c,by simp only; omega,fun h=>by cases h⟩ (by simp only; omega))
     simp only [kXnB,kXn1]
     rw [st.1,st.2]
     rfl
    ·exfalso; have:=of_decide_eq_false c; omega
   | true =>
    refine see (p:=onSome (ptl l)[k]? fun row=>onSome row[0]? fun v=>onIntK IntKind.i64 v fun n_1=>ifB (decide ((↑x:Int)<n_1)) (need ((n+1) * 24≤140737488355328) (need ((2 * n+2) * 32≤140737488355328) (J3 (St.mk (mkT [(0,V.lst 4 (ptl l)),(4,nilS),(5,iv (↑k:Int)),(6,V.ptr (Id.p 0) 0 0),(7,iv (↑y:Int)),(8,iv (IntKind.i64.wrap ((↑x:Int)+(1:Int))))]) (Hp.mk [(0,O.rows 3 false [[V.sl (Id.p 1) 0 (n+1),V.sl (Id.p 2) 0 (2 * n+2),iv a]]),(1,O.rows 3 true (List.take n (gcl w n)++[[iv (↑x:Int),iv (↑y:Int),iv (0:Int)]])),(2,O.rows 5 true (List.take (2 * n) (gkn w n)++[[iv (↑x:Int),iv (↑y:Int),iv (0:Int),V.raw (Value.int IntKind.u8 (4:Int)),V.raw (Value.int IntKind.u8 (1:Int))],[iv (↑x:Int),iv (↑y:Int),iv (0:Int),V.raw (Value.int IntKind.u8 (5:Int)),V.raw (Value.int IntKind.u8 (2:Int))]]))] 3 []))))) (J2 (St.mk (mkT [(0,V.lst 4 (ptl l)),(4,nilS),(5,iv (↑k:Int)),(6,V.ptr (Id.p 0) 0 0),(7,iv (IntKind.i64.wrap ((↑y:Int)+(1:Int))))]) (Hp.mk [(0,O.rows 3 false [[V.sl (Id.p 1) 0 n,V.sl (Id.p 2) 0 (2 * n),iv a]]),(1,O.rows 3 true (gcl w n)),(2,O.rows 5 true (gkn w n))] 3 [])))) (by kernel_rfl) ?_
    refine onSome_mk (ptl_get ht) (onSome_mk (x:=iv t.1) rfl (onIntK_iv (ifB_mk (fun c=>?_) (fun c=>?_))))
    ·have c:x<w.toNat:=by have:=of_decide_eq_true c; omega
     have st:=step34 (w:=w) (y:=y) (k:=x) c
     rw [← m2] at st
     rw [wr (n:=(x:Int)+1) (by omega) (by omega)]
     refine need_mk ⟨by omega,need_mk ⟨by omega,?_⟩⟩
     refine hJ' ?_ (hJ3 (true,x+1,n+1) ⟨c,by simp only; omega,fun h=>by cases h⟩ (by simp only; omega))
     simp only [kXnB,kXn1]
     rw [st.1,st.2]
     rfl
    ·have c:x=w.toNat:=by have:=of_decide_eq_false c; omega
     rw [wr (n:=(y:Int)+1) (by omega) (by omega)]
     exact hJ2 (true,y+1,n) ⟨by simp only; omega,by simp only; rw [Nat.succ_mul]; omega,fun h=>by cases h⟩ (by simp only; omega)
  ·exfalso
   have e:=of_decide_eq_false e
   have:1 * 1≤y * w.toNat:=Nat.mul_le_mul (by omega) (by omega)
   omega
 | true =>
  refine see (p:=onSome (ptl l)[k]? fun row=>onSome row[1]? fun v=>onIntK IntKind.i64 v fun n_1=>ifB (decide ((↑y:Int)<n_1)) (La 0 [(0:Tmp),(4:Tmp),(5:Tmp),(6:Tmp),(7:Tmp),(8:Tmp),(6000000:Tmp)] (WY Tryd.prog cfE 2978 (Env.mk (Bs.mk 0 []) 0 none 84 34 4) (cdAt [1,1,1,0,1,0,0,1,0,0,1,1,0,1,0,0,1,0,0,1,0,0] (bodyOf Tryd.f34))) (Qblk 4 (Qblk 3 (Qthen (WY Tryd.prog cfE 2982 (Env.mk (Bs.mk 0 []) 0 none 84 34 2) (cdAt [1,1,1,0,1,0,0,1,0,0,1,1,0,1,0,0,1,1] (bodyOf Tryd.f34)) (Qla 0 [(0:Tmp),(4:Tmp),(5:Tmp),(6:Tmp),(7:Tmp),(6000000:Tmp)] J2 (Qblk 2 (Qthen (WY Tryd.prog cfE 2987 (Env.mk (Bs.mk 0 []) 0 none 84 34 1) (cdAt [1,1,1,0,1,0,0,1,0,0,1,1,1] (bodyOf Tryd.f34)) (Qblk 1 (Qthen (WY Tryd.prog cfE 2991 (Env.mk (Bs.mk 0 []) 0 none 84 34 0) (cdAt [1,1,1,0,1,0,0,1,1] (bodyOf Tryd.f34)) (Qla 0 [(0:Tmp),(4:Tmp),(5:Tmp),(6000000:Tmp)] J (Qblk 0 (Qthen (WY Tryd.prog cfE 2996 (Env.mk (Bs.mk 0 []) 0 none 84 34 0) (cdAt [1,1,1,1] (bodyOf Tryd.f34)) (QendX Tryd.prog Tryd.f34 fun v h=>R (frzW h v))) (QendX Tryd.prog Tryd.f34 fun v h=>R (frzW h v)))))) (Qla 0 [(0:Tmp),(4:Tmp),(5:Tmp),(6000000:Tmp)] J (Qblk 0 (Qthen (WY Tryd.prog cfE 2996 (Env.mk (Bs.mk 0 []) 0 none 84 34 0) (cdAt [1,1,1,1] (bodyOf Tryd.f34)) (QendX Tryd.prog Tryd.f34 fun v h=>R (frzW h v))) (QendX Tryd.prog Tryd.f34 fun v h=>R (frzW h v)))))))) (Qblk 1 (Qthen (WY Tryd.prog cfE 2991 (Env.mk (Bs.mk 0 []) 0 none 84 34 0) (cdAt [1,1,1,0,1,0,0,1,1] (bodyOf Tryd.f34)) (Qla 0 [(0:Tmp),(4:Tmp),(5:Tmp),(6000000:Tmp)] J (Qblk 0 (Qthen (WY Tryd.prog cfE 2996 (Env.mk (Bs.mk 0 []) 0 none 84 34 0) (cdAt [1,1,1,1] (bodyOf Tryd.f34)) (QendX Tryd.prog Tryd.f34 fun v h=>R (frzW h v))) (QendX Tryd.prog Tryd.f34 fun v h=>R (frzW h v)))))) (Qla 0 [(0:Tmp),(4:Tmp),(5:Tmp),(6000000:Tmp)] J (Qblk 0 (Qthen (WY Tryd.prog cfE 2996 (Env.mk (Bs.mk 0 []) 0 none 84 34 0) (cdAt [1,1,1,1] (bodyOf Tryd.f34)) (QendX Tryd.prog Tryd.f34 fun v h=>R (frzW h v))) (QendX Tryd.prog Tryd.f34 fun v h=>R (frzW h v))))))))))) (Qla 0 [(0:Tmp),(4:Tmp),(5:Tmp),(6:Tmp),(7:Tmp),(6000000:Tmp)] J2 (Qblk 2 (Qthen (WY Tryd.prog cfE 2987 (Env.mk (Bs.mk 0 []) 0 none 84 34 1) (cdAt [1,1,1,0,1,0,0,1,0,0,1,1,1] (bodyOf Tryd.f34)) (Qblk 1 (Qthen (WY Tryd.prog cfE 2991 (Env.mk (Bs.mk 0 []) 0 none 84 34 0) (cdAt [1,1,1,0,1,0,0,1,1] (bodyOf Tryd.f34)) (Qla 0 [(0:Tmp),(4:Tmp),(5:Tmp),(6000000:Tmp)] J (Qblk 0 (Qthen (WY Tryd.prog cfE 2996 (Env.mk (Bs.mk 0 []) 0 none 84 34 0) (cdAt [1,1,1,1] (bodyOf Tryd.f34)) (QendX Tryd.prog Tryd.f34 fun v h=>R (frzW h v))) (QendX Tryd.prog Tryd.f34 fun v h=>R (frzW h v)))))) (Qla 0 [(0:Tmp),(4:Tmp),(5:Tmp),(6000000:Tmp)] J (Qblk 0 (Qthen (WY Tryd.prog cfE 2996 (Env.mk (Bs.mk 0 []) 0 none 84 34 0) (cdAt [1,1,1,1] (bodyOf Tryd.f34)) (QendX Tryd.prog Tryd.f34 fun v h=>R (frzW h v))) (QendX Tryd.prog Tryd.f34 fun v h=>R (frzW h v)))))))) (Qblk 1 (Qthen (WY Tryd.prog cfE 2991 (Env.mk (Bs.mk 0 []) 0 none 84 34 0) (cdAt [1,1,1,0,1,0,0,1,1] (bodyOf Tryd.f34)) (Qla 0 [(0:Tmp),(4:Tmp),(5:Tmp),(6000000:Tmp)] J (Qblk 0 (Qthen (WY Tryd.prog cfE 2996 (Env.mk (Bs.mk 0 []) 0 none 84 34 0) (cdAt [1,1,1,1] (bodyOf Tryd.f34)) (QendX Tryd.prog Tryd.f34 fun v h=>R (frzW h v))) (QendX Tryd.prog Tryd.f34 fun v h=>R (frzW h v)))))) (Qla 0 [(0:Tmp),(4:Tmp),(5:Tmp),(6000000:Tmp)] J (Qblk 0 (Qthen (WY Tryd.prog cfE 2996 (Env.mk (Bs.mk 0 []) 0 none 84 34 0) (cdAt [1,1,1,1] (bodyOf Tryd.f34)) (QendX Tryd.prog Tryd.f34 fun v h=>R (frzW h v))) (QendX Tryd.prog Tryd.f34 fun v h=>R (frzW h v))))))))))))) (St.mk (mkT [(0,V.lst 4 (ptl l)),(4,nilS),(5,iv (↑k:Int)),(6,V.ptr (Id.p 0) 0 0),(7,iv (↑y:Int)),(8,iv (0:Int))]) (Hp.mk [(0,O.rows 3 false [[V.sl (Id.p 1) 0 n,V.sl (Id.p 2) 0 (2 * n),iv a]]),(1,O.rows 3 true (gcl w n)),(2,O.rows 5 true (gkn w n))] 3 []))) (J (St.mk (mkT [(0,V.lst 4 (ptl l)),(4,V.sl (Id.p 0) 0 1),(5,iv (IntKind.i64.wrap ((↑k:Int)+(1:Int))))]) (Hp.mk [(0,O.rows 3 true [[V.lst 3 (sub (gcl w n) 0 n),V.lst 5 (sub (gkn w n) 0 (2 * n)),iv a]])] 1 [])))) (by kernel_rfl) ?_
  refine onSome_mk (ptl_get ht) (onSome_mk (x:=iv t.2.1) rfl (onIntK_iv (ifB_mk (fun e=>?_) (fun e=>?_))))
  ·have e:=of_decide_eq_true e
   refine La.of (σ:=Bool×Nat×Nat) (fun s=>kXnB l k w a y s.2.2 s.2.1 s.1) (fun s=>s.2.1≤w.toNat∧s.2.2=y * w.toNat+s.2.1∧(s.1=false→s.2.2=0)) (fun s=>w.toNat - s.2.1) (true,0,n) (by kernel_rfl) ⟨Nat.zero_le _,by simp only; omega,fun h=>by cases h⟩ ?_
   rintro ⟨b,x,n⟩ ⟨m1,m2,m3⟩ J3 hJ3
   simp only at m1 m2 m3
   have hyW:y * w.toNat≤7 * 8:=Nat.mul_le_mul (by omega) hW8
   cases b with
   | false =>
    have m3:=m3 rfl
    refine see (p:=onSome (ptl l)[k]? fun row=>onSome row[0]? fun v=>onIntK IntKind.i64 v fun n=>ifB (decide ((↑x:Int)<n)) (J3 (St.mk (mkT [(0,V.lst 4 (ptl l)),(4,nilS),(5,iv (↑k:Int)),(6,V.ptr (Id.p 0) 0 0),(7,iv (↑y:Int)),(8,iv (IntKind.i64.wrap ((↑x:Int)+(1:Int))))]) (Hp.mk [(0,O.rows 3 false [[V.sl (Id.p 1) 0 1,V.sl (Id.p 2) 0 2,iv a]]),(1,O.rows 3 true [[iv (↑x:Int),iv (↑y:Int),iv (0:Int)]]),(2,O.rows 5 true [[iv (↑x:Int),iv (↑y:Int),iv (0:Int),V.raw (Value.int IntKind.u8 (4:Int)),V.raw (Value.int IntKind.u8 (1:Int))],[iv (↑x:Int),iv (↑y:Int),iv (0:Int),V.raw (Value.int IntKind.u8 (5:Int)),V.raw (Value.int IntKind.u8 (2:Int))]])] 3 []))) (J2 (St.mk (mkT [(0,V.lst 4 (ptl l)),(4,nilS),(5,iv (↑k:Int)),(6,V.ptr (Id.p 0) 0 0),(7,iv (IntKind.i64.wrap ((↑y:Int)+(1:Int))))]) (Hp.mk [(0,O.rows 3 false [[nilS,nilS,iv a]])] 1 [])))) (by kernel_rfl) ?_
    refine onSome_mk (ptl_get ht) (onSome_mk (x:=iv t.1) rfl (onIntK_iv (ifB_mk (fun c=>?_) (fun c=>?_))))
    ·have c:x<w.toNat:=by have:=of_decide_eq_true c; omega
     have st:=step34 (w:=w) (y:=y) (k:=x) c
     rw [← m2,m3] at st
     rw [wr (n:=(x:Int)+1) (by omega) (by omega)]
     refine hJ' ?_ (hJ3 (true,x+1,1) ⟨c,by simp only; omega,fun h=>by cases h⟩ (by simp only; omega))
     simp only [kXnB,kXn1]
     rw [st.1,st.2]
     rfl
    ·exfalso; have:=of_decide_eq_false c; omega
   | true =>
    refine see (p:=onSome (ptl l)[k]? fun row=>onSome row[0]? fun v=>onIntK IntKind.i64 v fun n_1=>ifB (decide ((↑x:Int)<n_1)) (need ((n+1) * 24≤140737488355328) (need ((2 * n+2) * 32≤140737488355328) (J3 (St.mk (mkT [(0,V.lst 4 (ptl l)),(4,nilS),(5,iv (↑k:Int)),(6,V.ptr (Id.p 0) 0 0),(7,iv (↑y:Int)),(8,iv (IntKind.i64.wrap ((↑x:Int)+(1:Int))))]) (Hp.mk [(0,O.rows 3 false [[V.sl (Id.p 1) 0 (n+1),V.sl (Id.p 2) 0 (2 * n+2),iv a]]),(1,O.rows 3 true (List.take n (gcl w n)++[[iv (↑x:Int),iv (↑y:Int),iv (0:Int)]])),(2,O.rows 5 true (List.take (2 * n) (gkn w n)++[[iv (↑x:Int),iv (↑y:Int),iv (0:Int),V.raw (Value.int IntKind.u8 (4:Int)),V.raw (Value.int IntKind.u8 (1:Int))],[iv (↑x:Int),iv (↑y:Int),iv (0:Int),V.raw (Value.int IntKind.u8 (5:Int)),V.raw (Value.int IntKind.u8 (2:Int))]]))] 3 []))))) (J2 (St.mk (mkT [(0,V.lst 4 (ptl l)),(4,nilS),(5,iv (↑k:Int)),(6,V.ptr (Id.p 0) 0 0),(7,iv (IntKind.i64.wrap ((↑y:Int)+(1:Int))))]) (Hp.mk [(0,O.rows 3 false [[V.sl (Id.p 1) 0 n,V.sl (Id.p 2) 0 (2 * n),iv a]]),(1,O.rows 3 true (gcl w n)),(2,O.rows 5 true (gkn w n))] 3 [])))) (by kernel_rfl) ?_
    refine onSome_mk (ptl_get ht) (onSome_mk (x:=iv t.1) rfl (onIntK_iv (ifB_mk (fun c=>?_) (fun c=>?_))))
    ·have c:x<w.toNat:=by have:=of_decide_eq_true c; omega
     have st:=step34 (w:=w) (y:=y) (k:=x) c
     rw [← m2] at st
     rw [wr (n:=(x:Int)+1) (by omega) (by omega)]
     refine need_mk ⟨by omega,need_mk ⟨by omega,?_⟩⟩
     refine hJ' ?_ (hJ3 (true,x+1,n+1) ⟨c,by simp only; omega,fun h=>by cases h⟩ (by simp only; omega))
     simp only [kXnB,kXn1]
     rw [st.1,st.2]
     rfl
    ·have c:x=w.toNat:=by have:=of_decide_eq_false c; omega
     rw [wr (n:=(y:Int)+1) (by omega) (by omega)]
     exact hJ2 (true,y+1,n) ⟨by simp only; omega,by simp only; rw [Nat.succ_mul]; omega,fun h=>by cases h⟩ (by simp only; omega)
  ·have e:=of_decide_eq_false e
   have hy:y=t.2.1.toNat:=by omega
   rw [sub_all (gcl_len _ _),sub_all (gkn_len _ _),hw]
   exact hJ n (by rw [k2,hy,hw])
theorem loop34s {l:List Pt} {q:List Pt} {k:Nat} {t:Pt} {a:Int} {R:V→Prop} {J:St→Prop} (ht:l[k]? = some t) (hp:POK t) (hq:q.length≤1000) (hJ : ∀ n:Nat,n=t.2.1.toNat * t.1.toNat→J ⟨mkT [(0,V.lst 4 (ptl l)),(4,V.sl (Id.p 0) 0 (q.length+1)),(5,iv (IntKind.i64.wrap ((k:Int)+(1:Int))))],⟨[(0,O.rows 3 true (List.take q.length (kndl q)++[[V.lst 3 (gcl t.1 n),V.lst 5 (gkn t.1 n),iv a]]))],1,[]⟩⟩):La 0 [(0:Tmp),(4:Tmp),(5:Tmp),(6:Tmp),(7:Tmp),(6000000:Tmp)] (WY Tryd.prog cfE 2984 (Env.mk (Bs.mk 0 []) 0 none 84 34 2) (cdAt [1,1,1,0,1,0,0,1,0,0,1,1,0,1,0,0] (bodyOf Tryd.f34))) (Qblk 2 (Qthen (WY Tryd.prog cfE 2987 (Env.mk (Bs.mk 0 []) 0 none 84 34 1) (cdAt [1,1,1,0,1,0,0,1,0,0,1,1,1] (bodyOf Tryd.f34)) (Qblk 1 (Qthen (WY Tryd.prog cfE 2991 (Env.mk (Bs.mk 0 []) 0 none 84 34 0) (cdAt [1,1,1,0,1,0,0,1,1] (bodyOf Tryd.f34)) (Qla 0 [(0:Tmp),(4:Tmp),(5:Tmp),(6000000:Tmp)] J (Qblk 0 (Qthen (WY Tryd.prog cfE 2996 (Env.mk (Bs.mk 0 []) 0 none 84 34 0) (cdAt [1,1,1,1] (bodyOf Tryd.f34)) (QendX Tryd.prog Tryd.f34 fun v h=>R (frzW h v))) (QendX Tryd.prog Tryd.f34 fun v h=>R (frzW h v)))))) (Qla 0 [(0:Tmp),(4:Tmp),(5:Tmp),(6000000:Tmp)] J (Qblk 0 (Qthen (WY Tryd.prog cfE 2996 (Env.mk (Bs.mk 0 []) 0 none 84 34 0) (cdAt [1,1,1,1] (bodyOf Tryd.f34)) (QendX Tryd.prog Tryd.f34 fun v h=>R (frzW h v))) (QendX Tryd.prog Tryd.f34 fun v h=>R (frzW h v)))))))) (Qblk 1 (Qthen (WY Tryd.prog cfE 2991 (Env.mk (Bs.mk 0 []) 0 none 84 34 0) (cdAt [1,1,1,0,1,0,0,1,1] (bodyOf Tryd.f34)) (Qla 0 [(0:Tmp),(4:Tmp),(5:Tmp),(6000000:Tmp)] J (Qblk 0 (Qthen (WY Tryd.prog cfE 2996 (Env.mk (Bs.mk 0 []) 0 none 84 34 0) (cdAt [1,1,1,1] (bodyOf Tryd.f34)) (QendX Tryd.prog Tryd.f34 fun v h=>R (frzW h v))) (QendX Tryd.prog Tryd.f34 fun v h=>R (frzW h v)))))) (Qla 0 [(0:Tmp),(4:Tmp),(5:Tmp),(6000000:Tmp)] J (Qblk 0 (Qthen (WY Tryd.prog cfE 2996 (Env.mk (Bs.mk 0 []) 0 none 84 34 0) (cdAt [1,1,1,1] (bodyOf Tryd.f34)) (QendX Tryd.prog Tryd.f34 fun v h=>R (frzW h v))) (QendX Tryd.prog Tryd.f34 fun v h=>R (frzW h v))))))))) (kYs0 l q k a 0):=by
 obtain ⟨⟨x1,x2⟩,⟨x3,x4⟩,_,_⟩:=hp
 obtain ⟨w,hw⟩ : ∃ w:Int,w=t.1:=⟨_,rfl⟩
 have hW:((w.toNat:Nat):Int)=t.1:=by rw [hw]; exact Int.toNat_of_nonneg (by omega)
 have hD:((t.2.1.toNat:Nat):Int)=t.2.1:=Int.toNat_of_nonneg (by omega)
 have hW8:w.toNat≤8:=by omega
 refine La.of (σ:=Bool×Nat×Nat) (fun s=>kYsB l q k w a s.2.1 s.2.2 s.1) (fun s=>(s.2.1:Int)≤t.2.1∧s.2.2=s.2.1 * w.toNat∧(s.1=false→s.2.2=0)) (fun s=>t.2.1.toNat - s.2.1) (false,0,0) (by kernel_rfl) ⟨by simp only; omega,by simp,fun _=>rfl⟩ ?_
 rintro ⟨b,y,n⟩ ⟨k1,k2,k3⟩ J2 hJ2
 simp only at k1 k2 k3
 cases b with
 | false =>
  have k3:=k3 rfl
  refine see (p:=onSome (ptl l)[k]? fun row=>onSome row[1]? fun v=>onIntK IntKind.i64 v fun n=>ifB (decide ((↑y:Int)<n)) (La 0 [(0:Tmp),(4:Tmp),(5:Tmp),(6:Tmp),(7:Tmp),(8:Tmp),(6000000:Tmp)] (WY Tryd.prog cfE 2978 (Env.mk (Bs.mk 0 []) 0 none 84 34 4) (cdAt [1,1,1,0,1,0,0,1,0,0,1,1,0,1,0,0,1,0,0,1,0,0] (bodyOf Tryd.f34))) (Qblk 4 (Qblk 3 (Qthen (WY Tryd.prog cfE 2982 (Env.mk (Bs.mk 0 []) 0 none 84 34 2) (cdAt [1,1,1,0,1,0,0,1,0,0,1,1,0,1,0,0,1,1] (bodyOf Tryd.f34)) (Qla 0 [(0:Tmp),(4:Tmp),(5:Tmp),(6:Tmp),(7:Tmp),(6000000:Tmp)] J2 (Qblk 2 (Qthen (WY Tryd.prog cfE 2987 (Env.mk (Bs.mk 0 []) 0 none 84 34 1) (cdAt [1,1,1,0,1,0,0,1,0,0,1,1,1] (bodyOf Tryd.f34)) (Qblk 1 (Qthen (WY Tryd.prog cfE 2991 (Env.mk (Bs.mk 0 []) 0 none 84 34 0) (cdAt [1,1,1,0,1,0,0,1,1] (bodyOf Tryd.f34)) (Qla 0 [(0:Tmp),(4:Tmp),(5:Tmp),(6000000:Tmp)] J (Qblk 0 (Qthen (WY Tryd.prog cfE 2996 (Env.mk (Bs.mk 0 []) 0 none 84 34 0) (cdAt [1,1,1,1] (bodyOf Tryd.f34)) (QendX Tryd.prog Tryd.f34 fun v h=>R (frzW h v))) (QendX Tryd.prog Tryd.f34 fun v h=>R (frzW h v)))))) (Qla 0 [(0:Tmp),(4:Tmp),(5:Tmp),(6000000:Tmp)] J (Qblk 0 (Qthen (WY Tryd.prog cfE 2996 (Env.mk (Bs.mk 0 []) 0 none 84 34 0) (cdAt [1,1,1,1] (bodyOf Tryd.f34)) (QendX Tryd.prog Tryd.f34 fun v h=>R (frzW h v))) (QendX Tryd.prog Tryd.f34 fun v h=>R (frzW h v)))))))) (Qblk 1 (Qthen (WY Tryd.prog cfE 2991 (Env.mk (Bs.mk 0 []) 0 none 84 34 0) (cdAt [1,1,1,0,1,0,0,1,1] (bodyOf Tryd.f34)) (Qla 0 [(0:Tmp),(4:Tmp),(5:Tmp),(6000000:Tmp)] J (Qblk 0 (Qthen (WY Tryd.prog cfE 2996 (Env.mk (Bs.mk 0 []) 0 none 84 34 0) (cdAt [1,1,1,1] (bodyOf Tryd.f34)) (QendX Tryd.prog Tryd.f34 fun v h=>R (frzW h v))) (QendX Tryd.prog Tryd.f34 fun v h=>R (frzW h v)))))) (Qla 0 [(0:Tmp),(4:Tmp),(5:Tmp),(6000000:Tmp)] J (Qblk 0 (Qthen (WY Tryd.prog cfE 2996 (Env.mk (Bs.mk 0 []) 0 none 84 34 0) (cdAt [1,1,1,1] (bodyOf Tryd.f34)) (QendX Tryd.prog Tryd.f34 fun v h=>R (frzW h v))) (QendX Tryd.prog Tryd.f34 fun v h=>R (frzW h v))))))))))) (Qla 0 [(0:Tmp),(4:Tmp),(5:Tmp),(6:Tmp),(7:Tmp),(6000000:Tmp)] J2 (Qblk 2 (Qthen (WY Tryd.prog cfE 2987 (Env.mk (Bs.mk 0 []) 0 none 84 34 1) (cdAt [1,1,1,0,1,0,0,1,0,0,1,1,1] (bodyOf Tryd.f34)) (Qblk 1 (Qthen (WY Tryd.prog cfE 2991 (Env.mk (Bs.mk 0 []) 0 none 84 34 0) (cdAt [1,1,1,0,1,0,0,1,1] (bodyOf Tryd.f34)) (Qla 0 [(0:Tmp),(4:Tmp),(5:Tmp),(6000000:Tmp)] J (Qblk 0 (Qthen (WY Tryd.prog cfE 2996 (Env.mk (Bs.mk 0 []) 0 none 84 34 0) (cdAt [1,1,1,1] (bodyOf Tryd.f34)) (QendX Tryd.prog Tryd.f34 fun v h=>R (frzW h v))) (QendX Tryd.prog Tryd.f34 fun v h=>R (frzW h v)))))) (Qla 0 [(0:Tmp),(4:Tmp),(5:Tmp),(6000000:Tmp)] J (Qblk 0 (Qthen (WY Tryd.prog cfE 2996 (Env.mk (Bs.mk 0 []) 0 none 84 34 0) (cdAt [1,1,1,1] (bodyOf Tryd.f34)) (QendX Tryd.prog Tryd.f34 fun v h=>R (frzW h v))) (QendX Tryd.prog Tryd.f34 fun v h=>R (frzW h v)))))))) (Qblk 1 (Qthen (WY Tryd.prog cfE 2991 (Env.mk (Bs.mk 0 []) 0 none 84 34 0) (cdAt [1,1,1,0,1,0,0,1,1] (bodyOf Tryd.f34)) (Qla 0 [(0:Tmp),(4:Tmp),(5:Tmp),(6000000:Tmp)] J (Qblk 0 (Qthen (WY Tryd.prog cfE 2996 (Env.mk (Bs.mk 0 []) 0 none 84 34 0) (cdAt [1,1,1,1] (bodyOf Tryd.f34)) (QendX Tryd.prog Tryd.f34 fun v h=>R (frzW h v))) (QendX Tryd.prog Tryd.f34 fun v h=>R (frzW h v)))))) (Qla 0 [(0:Tmp),(4:Tmp),(5:Tmp),(6000000:Tmp)] J (Qblk 0 (Qthen (WY Tryd.prog cfE 2996 (Env.mk (Bs.mk 0 []) 0 none 84 34 0) (cdAt [1,1,1,1] (bodyOf Tryd.f34)) (QendX Tryd.prog Tryd.f34 fun v h=>R (frzW h v))) (QendX Tryd.prog Tryd.f34 fun v h=>R (frzW h v))))))))))))) (St.mk (mkT [(0,V.lst 4 (ptl l)),(4,V.sl (Id.p 0) 0 q.length),(5,iv (↑k:Int)),(6,V.ptr (Id.p 1) 0 0),(7,iv (↑y:Int)),(8,iv (0:Int))]) (Hp.mk [(0,O.rows 3 true (kndl q)),(1,O.rows 3 false [[nilS,nilS,iv a]])] 2 []))) (need ((q.length+1) * 56≤140737488355328) (J (St.mk (mkT [(0,V.lst 4 (ptl l)),(4,V.sl (Id.p 0) 0 (q.length+1)),(5,iv (IntKind.i64.wrap ((↑k:Int)+(1:Int))))]) (Hp.mk [(0,O.rows 3 true (List.take q.length (kndl q)++[[nilS,nilS,iv a]]))] 1 []))))) (by kernel_rfl) ?_
  refine onSome_mk (ptl_get ht) (onSome_mk (x:=iv t.2.1) rfl (onIntK_iv (ifB_mk (fun e=>?_) (fun e=>?_))))
  ·have e:=of_decide_eq_true e
   refine La.of (σ:=Bool×Nat×Nat) (fun s=>kXsB l q k w a y s.2.2 s.2.1 s.1) (fun s=>s.2.1≤w.toNat∧s.2.2=y * w.toNat+s.2.1∧(s.1=false→s.2.2=0)) (fun s=>w.toNat - s.2.1) (false,0,n) (by kernel_rfl) ⟨Nat.zero_le _,by simp only; omega,fun _=>k3⟩ ?_
   rintro ⟨b,x,n⟩ ⟨m1,m2,m3⟩ J3 hJ3
   simp only at m1 m2 m3
   have hyW:y * w.toNat≤7 * 8:=Nat.mul_le_mul (by omega) hW8
   cases b with
   | false =>
    have m3:=m3 rfl
    refine see (p:=onSome (ptl l)[k]? fun row=>onSome row[0]? fun v=>onIntK IntKind.i64 v fun n=>ifB (decide ((↑x:Int)<n)) (J3 (St.mk (mkT [(0,V.lst 4 (ptl l)),(4,V.sl (Id.p 0) 0 q.length),(5,iv (↑k:Int)),(6,V.ptr (Id.p 1) 0 0),(7,iv (↑y:Int)),(8,iv (IntKind.i64.wrap ((↑x:Int)+(1:Int))))]) (Hp.mk [(0,O.rows 3 true (kndl q)),(1,O.rows 3 false [[V.sl (Id.p 2) 0 1,V.sl (Id.p 3) 0 2,iv a]]),(2,O.rows 3 true [[iv (↑x:Int),iv (↑y:Int),iv (0:Int)]]),(3,O.rows 5 true [[iv (↑x:Int),iv (↑y:Int),iv (0:Int),V.raw (Value.int IntKind.u8 (4:Int)),V.raw (Value.int IntKind.u8 (1:Int))],[iv (↑x:Int),iv (↑y:Int),iv (0:Int),V.raw (Value.int IntKind.u8 (5:Int)),V.raw (Value.int IntKind.u8 (2:Int))]])] 4 []))) (J2 (St.mk (mkT [(0,V.lst 4 (ptl l)),(4,V.sl (Id.p 0) 0 q.length),(5,iv (↑k:Int)),(6,V.ptr (Id.p 1) 0 0),(7,iv (IntKind.i64.wrap ((↑y:Int)+(1:Int))))]) (Hp.mk [(0,O.rows 3 true (kndl q)),(1,O.rows 3 false [[nilS,nilS,iv a]])] 2 [])))) (by kernel_rfl) ?_
    refine onSome_mk (ptl_get ht) (onSome_mk (x:=iv t.1) rfl (onIntK_iv (ifB_mk (fun c=>?_) (fun c=>?_))))
    ·have c:x<w.toNat:=by have:=of_decide_eq_true c; omega
     have st:=step34 (w:=w) (y:=y) (k:=x) c
     rw [← m2,m3] at st
     rw [wr (n:=(x:Int)+1) (by omega) (by omega)]
     refine hJ' ?_ (hJ3 (true,x+1,1) ⟨c,by simp only; omega,fun h=>by cases h⟩ (by simp only; omega))
     simp only [kXsB,kXs1]
     rw [st.1,st.2]
     rfl
    ·exfalso; have:=of_decide_eq_false c; omega
   | true =>
    refine see (p:=onSome (ptl l)[k]? fun row=>onSome row[0]? fun v=>onIntK IntKind.i64 v fun n_1=>ifB (decide ((↑x:Int)<n_1)) (need ((n+1) * 24≤140737488355328) (need ((2 * n+2) * 32≤140737488355328) (J3 (St.mk (mkT [(0,V.lst 4 (ptl l)),(4,V.sl (Id.p 0) 0 q.length),(5,iv (↑k:Int)),(6,V.ptr (Id.p 1) 0 0),(7,iv (↑y:Int)),(8,iv (IntKind.i64.wrap ((↑x:Int)+(1:Int))))]) (Hp.mk [(0,O.rows 3 true (kndl q)),(1,O.rows 3 false [[V.sl (Id.p 2) 0 (n+1),V.sl (Id.p 3) 0 (2 * n+2),iv a]]),(2,O.rows 3 true (List.take n (gcl w n)++[[iv (↑x:Int),iv (↑y:Int),iv (0:Int)]])),(3,O.rows 5 true (List.take (2 * n) (gkn w n)++[[iv (↑x:Int),iv (↑y:Int),iv (0:Int),V.raw (Value.int IntKind.u8 (4:Int)),V.raw (Value.int IntKind.u8 (1:Int))],[iv (↑x:Int),iv (↑y:Int),iv (0:Int),V.raw (Value.int IntKind.u8 (5:Int)),V.raw (Value.int IntKind.u8 (2:Int))]]))] 4 []))))) (J2 (St.mk (mkT [(0,V.lst 4 (ptl l)),(4,V.sl (Id.p 0) 0 q.length),(5,iv (↑k:Int)),(6,V.ptr (Id.p 1) 0 0),(7,iv (IntKind.i64.wrap ((↑y:Int)+(1:Int))))]) (Hp.mk [(0,O.rows 3 true (kndl q)),(1,O.rows 3 false [[V.sl (Id.p 2) 0 n,V.sl (Id.p 3) 0 (2 * n),iv a]]),(2,O.rows 3 true (gcl w n)),(3,O.rows 5 true (gkn w n))] 4 [])))) (by kernel_rfl) ?_
    refine onSome_mk (ptl_get ht) (onSome_mk (x:=iv t.1) rfl (onIntK_iv (ifB_mk (fun c=>?_) (fun c=>?_))))
    ·have c:x<w.toNat:=by have:=of_decide_eq_true c; omega
     have st:=step34 (w:=w) (y:=y) (k:=x) c
     rw [← m2] at st
     rw [wr (n:=(x:Int)+1) (by omega) (by omega)]
     refine need_mk ⟨by omega,need_mk ⟨by omega,?_⟩⟩
     refine hJ' ?_ (hJ3 (true,x+1,n+1) ⟨c,by simp only; omega,fun h=>by cases h⟩ (by simp only; omega))
     simp only [kXsB,kXs1]
     rw [st.1,st.2]
     rfl
    ·have c:x=w.toNat:=by have:=of_decide_eq_false c; omega
     rw [wr (n:=(y:Int)+1) (by omega) (by omega)]
     exact hJ2 (true,y+1,n) ⟨by simp only; omega,by simp only; rw [Nat.succ_mul]; omega,fun h=>by cases h⟩ (by simp only; omega)
  ·exfalso
   have e:=of_decide_eq_false e
   have:1 * 1≤y * w.toNat:=Nat.mul_le_mul (by omega) (by omega)
   omega
 | true =>
  refine see (p:=onSome (ptl l)[k]? fun row=>onSome row[1]? fun v=>onIntK IntKind.i64 v fun n_1=>ifB (decide ((↑y:Int)<n_1)) (La 0 [(0:Tmp),(4:Tmp),(5:Tmp),(6:Tmp),(7:Tmp),(8:Tmp),(6000000:Tmp)] (WY Tryd.prog cfE 2978 (Env.mk (Bs.mk 0 []) 0 none 84 34 4) (cdAt [1,1,1,0,1,0,0,1,0,0,1,1,0,1,0,0,1,0,0,1,0,0] (bodyOf Tryd.f34))) (Qblk 4 (Qblk 3 (Qthen (WY Tryd.prog cfE 2982 (Env.mk (Bs.mk 0 []) 0 none 84 34 2) (cdAt [1,1,1,0,1,0,0,1,0,0,1,1,0,1,0,0,1,1] (bodyOf Tryd.f34)) (Qla 0 [(0:Tmp),(4:Tmp),(5:Tmp),(6:Tmp),(7:Tmp),(6000000:Tmp)] J2 (Qblk 2 (Qthen (WY Tryd.prog cfE 2987 (Env.mk (Bs.mk 0 []) 0 none 84 34 1) (cdAt [1,1,1,0,1,0,0,1,0,0,1,1,1] (bodyOf Tryd.f34)) (Qblk 1 (Qthen (WY Tryd.prog cfE 2991 (Env.mk (Bs.mk 0 []) 0 none 84 34 0) (cdAt [1,1,1,0,1,0,0,1,1] (bodyOf Tryd.f34)) (Qla 0 [(0:Tmp),(4:Tmp),(5:Tmp),(6000000:Tmp)] J (Qblk 0 (Qthen (WY Tryd.prog cfE 2996 (Env.mk (Bs.mk 0 []) 0 none 84 34 0) (cdAt [1,1,1,1] (bodyOf Tryd.f34)) (QendX Tryd.prog Tryd.f34 fun v h=>R (frzW h v))) (QendX Tryd.prog Tryd.f34 fun v h=>R (frzW h v)))))) (Qla 0 [(0:Tmp),(4:Tmp),(5:Tmp),(6000000:Tmp)] J (Qblk 0 (Qthen (WY Tryd.prog cfE 2996 (Env.mk (Bs.mk 0 []) 0 none 84 34 0) (cdAt [1,1,1,1] (bodyOf Tryd.f34)) (QendX Tryd.prog Tryd.f34 fun v h=>R (frzW h v))) (QendX Tryd.prog Tryd.f34 fun v h=>R (frzW h v)))))))) (Qblk 1 (Qthen (WY Tryd.prog cfE 2991 (Env.mk (Bs.mk 0 []) 0 none 84 34 0) (cdAt [1,1,1,0,1,0,0,1,1] (bodyOf Tryd.f34)) (Qla 0 [(0:Tmp),(4:Tmp),(5:Tmp),(6000000:Tmp)] J (Qblk 0 (Qthen (WY Tryd.prog cfE 2996 (Env.mk (Bs.mk 0 []) 0 none 84 34 0) (cdAt [1,1,1,1] (bodyOf Tryd.f34)) (QendX Tryd.prog Tryd.f34 fun v h=>R (frzW h v))) (QendX Tryd.prog Tryd.f34 fun v h=>R (frzW h v)))))) (Qla 0 [(0:Tmp),(4:Tmp),(5:Tmp),(6000000:Tmp)] J (Qblk 0 (Qthen (WY Tryd.prog cfE 2996 (Env.mk (Bs.mk 0 []) 0 none 84 34 0) (cdAt [1,1,1,1] (bodyOf Tryd.f34)) (QendX Tryd.prog Tryd.f34 fun v h=>R (frzW h v))) (QendX Tryd.prog Tryd.f34 fun v h=>R (frzW h v))))))))))) (Qla 0 [(0:Tmp),(4:Tmp),(5:Tmp),(6:Tmp),(7:Tmp),(6000000:Tmp)] J2 (Qblk 2 (Qthen (WY Tryd.prog cfE 2987 (Env.mk (Bs.mk 0 []) 0 none 84 34 1) (cdAt [1,1,1,0,1,0,0,1,0,0,1,1,1] (bodyOf Tryd.f34)) (Qblk 1 (Qthen (WY Tryd.prog cfE 2991 (Env.mk (Bs.mk 0 []) 0 none 84 34 0) (cdAt [1,1,1,0,1,0,0,1,1] (bodyOf Tryd.f34)) (Qla 0 [(0:Tmp),(4:Tmp),(5:Tmp),(6000000:Tmp)] J (Qblk 0 (Qthen (WY Tryd.prog cfE 2996 (Env.mk (Bs.mk 0 []) 0 none 84 34 0) (cdAt [1,1,1,1] (bodyOf Tryd.f34)) (QendX Tryd.prog Tryd.f34 fun v h=>R (frzW h v))) (QendX Tryd.prog Tryd.f34 fun v h=>R (frzW h v)))))) (Qla 0 [(0:Tmp),(4:Tmp),(5:Tmp),(6000000:Tmp)] J (Qblk 0 (Qthen (WY Tryd.prog cfE 2996 (Env.mk (Bs.mk 0 []) 0 none 84 34 0) (cdAt [1,1,1,1] (bodyOf Tryd.f34)) (QendX Tryd.prog Tryd.f34 fun v h=>R (frzW h v))) (QendX Tryd.prog Tryd.f34 fun v h=>R (frzW h v)))))))) (Qblk 1 (Qthen (WY Tryd.prog cfE 2991 (Env.mk (Bs.mk 0 []) 0 none 84 34 0) (cdAt [1,1,1,0,1,0,0,1,1] (bodyOf Tryd.f34)) (Qla 0 [(0:Tmp),(4:Tmp),(5:Tmp),(6000000:Tmp)] J (Qblk 0 (Qthen (WY Tryd.prog cfE 2996 (Env.mk (Bs.mk 0 []) 0 none 84 34 0) (cdAt [1,1,1,1] (bodyOf Tryd.f34)) (QendX Tryd.prog Tryd.f34 fun v h=>R (frzW h v))) (QendX Tryd.prog Tryd.f34 fun v h=>R (frzW h v)))))) (Qla 0 [(0:Tmp),(4:Tmp),(5:Tmp),(6000000:Tmp)] J (Qblk 0 (Qthen (WY Tryd.prog cfE 2996 (Env.mk (Bs.mk 0 []) 0 none 84 34 0) (cdAt [1,1,1,1] (bodyOf Tryd.f34)) (QendX Tryd.prog Tryd.f34 fun v h=>R (frzW h v))) (QendX Tryd.prog Tryd.f34 fun v h=>R (frzW h v))))))))))))) (St.mk (mkT [(0,V.lst 4 (ptl l)),(4,V.sl (Id.p 0) 0 q.length),(5,iv (↑k:Int)),(6,V.ptr (Id.p 1) 0 0),(7,iv (↑y:Int)),(8,iv (0:Int))]) (Hp.mk [(0,O.rows 3 true (kndl q)),(1,O.rows 3 false [[V.sl (Id.p 2) 0 n,V.sl (Id.p 3) 0 (2 * n),iv a]]),(2,O.rows 3 true (gcl w n)),(3,O.rows 5 true (gkn w n))] 4 []))) (need ((q.length+1) * 56≤140737488355328) (J (St.mk (mkT [(0,V.lst 4 (ptl l)),(4,V.sl (Id.p 0) 0 (q.length+1)),(5,iv (IntKind.i64.wrap ((↑k:Int)+(1:Int))))]) (Hp.mk [(0,O.rows 3 true (List.take q.length (kndl q)++[[V.lst 3 (sub (gcl w n) 0 n),V.lst 5 (sub (gkn w n) 0 (2 * n)),iv a]]))] 1 []))))) (by kernel_rfl) ?_
  refine onSome_mk (ptl_get ht) (onSome_mk (x:=iv t.2.1) rfl (onIntK_iv (ifB_mk (fun e=>?_) (fun e=>?_))))
  ·have e:=of_decide_eq_true e
   refine La.of (σ:=Bool×Nat×Nat) (fun s=>kXsB l q k w a y s.2.2 s.2.1 s.1) (fun s=>s.2.1≤w.toNat∧s.2.2=y * w.toNat+s.2.1∧(s.1=false→s.2.2=0)) (fun s=>w.toNat - s.2.1) (true,0,n) (by kernel_rfl) ⟨Nat.zero_le _,by simp only; omega,fun h=>by cases h⟩ ?_
   rintro ⟨b,x,n⟩ ⟨m1,m2,m3⟩ J3 hJ3
   simp only at m1 m2 m3
   have hyW:y * w.toNat≤7 * 8:=Nat.mul_le_mul (by omega) hW8
   cases b with
   | false =>
    have m3:=m3 rfl
    refine see (p:=onSome (ptl l)[k]? fun row=>onSome row[0]? fun v=>onIntK IntKind.i64 v fun n=>ifB (decide ((↑x:Int)<n)) (J3 (St.mk (mkT [(0,V.lst 4 (ptl l)),(4,V.sl (Id.p 0) 0 q.length),(5,iv (↑k:Int)),(6,V.ptr (Id.p 1) 0 0),(7,iv (↑y:Int)),(8,iv (IntKind.i64.wrap ((↑x:Int)+(1:Int))))]) (Hp.mk [(0,O.rows 3 true (kndl q)),(1,O.rows 3 false [[V.sl (Id.p 2) 0 1,V.sl (Id.p 3) 0 2,iv a]]),(2,O.rows 3 true [[iv (↑x:Int),iv (↑y:Int),iv (0:Int)]]),(3,O.rows 5 true [[iv (↑x:Int),iv (↑y:Int),iv (0:Int),V.raw (Value.int IntKind.u8 (4:Int)),V.raw (Value.int IntKind.u8 (1:Int))],[iv (↑x:Int),iv (↑y:Int),iv (0:Int),V.raw (Value.int IntKind.u8 (5:Int)),V.raw (Value.int IntKind.u8 (2:Int))]])] 4 []))) (J2 (St.mk (mkT [(0,V.lst 4 (ptl l)),(4,V.sl (Id.p 0) 0 q.length),(5,iv (↑k:Int)),(6,V.ptr (Id.p 1) 0 0),(7,iv (IntKind.i64.wrap ((↑y:Int)+(1:Int))))]) (Hp.mk [(0,O.rows 3 true (kndl q)),(1,O.rows 3 false [[nilS,nilS,iv a]])] 2 [])))) (by kernel_rfl) ?_
    refine onSome_mk (ptl_get ht) (onSome_mk (x:=iv t.1) rfl (onIntK_iv (ifB_mk (fun c=>?_) (fun c=>?_))))
    ·have c:x<w.toNat:=by have:=of_decide_eq_true c; omega
     have st:=step34 (w:=w) (y:=y) (k:=x) c
     rw [← m2,m3] at st
     rw [wr (n:=(x:Int)+1) (by omega) (by omega)]
     refine hJ' ?_ (hJ3 (true,x+1,1) ⟨c,by simp only; omega,fun h=>by cases h⟩ (by simp only; omega))
     simp only [kXsB,kXs1]
     rw [st.1,st.2]
     rfl
    ·exfalso; have:=of_decide_eq_false c; omega
   | true =>
    refine see (p:=onSome (ptl l)[k]? fun row=>onSome row[0]? fun v=>onIntK IntKind.i64 v fun n_1=>ifB (decide ((↑x:Int)<n_1)) (need ((n+1) * 24≤140737488355328) (need ((2 * n+2) * 32≤140737488355328) (J3 (St.mk (mkT [(0,V.lst 4 (ptl l)),(4,V.sl (Id.p 0) 0 q.length),(5,iv (↑k:Int)),(6,V.ptr (Id.p 1) 0 0),(7,iv (↑y:Int)),(8,iv (IntKind.i64.wrap ((↑x:Int)+(1:Int))))]) (Hp.mk [(0,O.rows 3 true (kndl q)),(1,O.rows 3 false [[V.sl (Id.p 2) 0 (n+1),V.sl (Id.p 3) 0 (2 * n+2),iv a]]),(2,O.rows 3 true (List.take n (gcl w n)++[[iv (↑x:Int),iv (↑y:Int),iv (0:Int)]])),(3,O.rows 5 true (List.take (2 * n) (gkn w n)++[[iv (↑x:Int),iv (↑y:Int),iv (0:Int),V.raw (Value.int IntKind.u8 (4:Int)),V.raw (Value.int IntKind.u8 (1:Int))],[iv (↑x:Int),iv (↑y:Int),iv (0:Int),V.raw (Value.int IntKind.u8 (5:Int)),V.raw (Value.int IntKind.u8 (2:Int))]]))] 4 []))))) (J2 (St.mk (mkT [(0,V.lst 4 (ptl l)),(4,V.sl (Id.p 0) 0 q.length),(5,iv (↑k:Int)),(6,V.ptr (Id.p 1) 0 0),(7,iv (IntKind.i64.wrap ((↑y:Int)+(1:Int))))]) (Hp.mk [(0,O.rows 3 true (kndl q)),(1,O.rows 3 false [[V.sl (Id.p 2) 0 n,V.sl (Id.p 3) 0 (2 * n),iv a]]),(2,O.rows 3 true (gcl w n)),(3,O.rows 5 true (gkn w n))] 4 [])))) (by kernel_rfl) ?_
    refine onSome_mk (ptl_get ht) (onSome_mk (x:=iv t.1) rfl (onIntK_iv (ifB_mk (fun c=>?_) (fun c=>?_))))
    ·have c:x<w.toNat:=by have:=of_decide_eq_true c; omega
     have st:=step34 (w:=w) (y:=y) (k:=x) c
     rw [← m2] at st
     rw [wr (n:=(x:Int)+1) (by omega) (by omega)]
     refine need_mk ⟨by omega,need_mk ⟨by omega,?_⟩⟩
     refine hJ' ?_ (hJ3 (true,x+1,n+1) ⟨c,by simp only; omega,fun h=>by cases h⟩ (by simp only; omega))
     simp only [kXsB,kXs1]
     rw [st.1,st.2]
     rfl
    ·have c:x=w.toNat:=by have:=of_decide_eq_false c; omega
     rw [wr (n:=(y:Int)+1) (by omega) (by omega)]
     exact hJ2 (true,y+1,n) ⟨by simp only; omega,by simp only; rw [Nat.succ_mul]; omega,fun h=>by cases h⟩ (by simp only; omega)
  ·have e:=of_decide_eq_false e
   have hy:y=t.2.1.toNat:=by omega
   rw [sub_all (gcl_len _ _),sub_all (gkn_len _ _),hw]
   refine need_mk ⟨by omega,?_⟩
   exact hJ n (by rw [k2,hy,hw])
noncomputable def sh20B (l q:List Pt) (k:Nat):Bool→St
 | false=>sh20n l k
 | true=>sh20s l q k
theorem eq34 {l:List Pt} {R:V→Prop}:(K0G Tryd.prog glX 52 [V.lst 4 (ptl l)] fun v=>onBool v fun b=>ifB (!b) (R (V.tup [nilS,iv (71:Int)])) (La 0 [(0:Tmp),(4:Tmp),(5:Tmp),(6000000:Tmp)] (WY Tryd.prog cfE 2993 (Env.mk (Bs.mk 0 []) 0 none 84 34 0) (cdAt [1,1,1,0,1,0,0] (bodyOf Tryd.f34))) (Qblk 0 (Qthen (WY Tryd.prog cfE 2996 (Env.mk (Bs.mk 0 []) 0 none 84 34 0) (cdAt [1,1,1,1] (bodyOf Tryd.f34)) (QendX Tryd.prog Tryd.f34 fun v h=>R (frzW h v))) (QendX Tryd.prog Tryd.f34 fun v h=>R (frzW h v)))) (St.mk (mkT [(0,V.lst 4 (ptl l)),(4,nilS),(5,iv (0:Int))]) (Hp.mk [] 0 []))))=WY0 Tryd.prog cfE 3000 34 Tryd.f34 [.lst 4 (ptl l)] R:=by kernel_rfl
theorem kinds34 {l:List Pt} {R:V→Prop} (h1 : ¬ PtOK l→R (.tup [nilS,iv 71])) (h2:PtOK l → ¬ FitK l→R (.tup [nilS,iv 2])) (h0:PtOK l→FitK l→R (.tup [.lst 3 (kndl l),iv 0])):K0G Tryd.prog glX 34 [.lst 4 (ptl l)] R:=by
 refine K0_by hmX hcE 3000 Tryd.func34 eq34 ?_
 refine plates36 (fun q=>onBool_bv (ifB_f rfl ?_)) (fun q=>onBool_bv (ifB_t rfl (h1 q)))
 have h0:=h0 q
 have h2:=h2 q
 obtain ⟨⟨q1,q2⟩,q3,q4⟩:=q
 refine La.of (σ:=Bool×List Pt×Nat) (fun s=>sh20B l s.2.1 s.2.2 s.1) (fun s=>s.2.2≤l.length∧s.2.1=l.take s.2.2∧(s.1=false→s.2.2=0) ∧ ∀ (i:Nat) (x:Pt),i<s.2.2→l[i]? = some x→x.1 * x.2.1≤24) (fun s=>l.length - s.2.2) (false,[],0) (by kernel_rfl) ⟨by simp,by simp,fun _=>rfl,fun i x hi=>by simp only at hi; omega⟩ ?_
 rintro ⟨b,q,k⟩ ⟨g1,g2,g3,g4⟩ J hJ
 simp only at g1 g2 g3 g4
 have go : ∀ x:Pt,l[k]? = some x→x.1 * x.2.1≤24→J (sh20s l (l.take (k+1)) (k+1)):=fun x hx hs=>hJ (true,l.take (k+1),k+1) ⟨by have:=(List.getElem?_eq_some_iff.1 hx).1; simp only; omega,rfl,fun h=>(by cases h),fun i y hi hy=>by
  rcases Nat.lt_succ_iff_lt_or_eq.1 hi with r | r
  ·exact g4 i y r hy
  ·subst r; rw [hx] at hy; cases hy; exact hs⟩ (by have:=(List.getElem?_eq_some_iff.1 hx).1; simp only; omega)
 have num : ∀ x:Pt,POK x→x.2.1.toNat * x.1.toNat=(x.1 * x.2.1).toNat:=fun x hp=>by
  have e:((x.2.1.toNat * x.1.toNat:Nat):Int)=x.1 * x.2.1:=by
   rw [Int.natCast_mul,Int.toNat_of_nonneg (by have:=hp.2.1; omega),Int.toNat_of_nonneg (by have:=hp.1; omega),Int.mul_comm]
  have:=congrArg Int.toNat e
  rwa [Int.toNat_natCast] at this
 cases b with
 | false =>
  have g3:=g3 rfl
  refine see (p:=ifB (decide ((↑k:Int)<(↑(ptl l).length:Int))) (onSome (ptl l)[k]? fun row=>onSome row[0]? fun v=>onIntK IntKind.i64 v fun n=>onSome (ptl l)[k]? fun row=>onSome row[1]? fun v=>onIntK IntKind.i64 v fun n_1=>ifB (decide (IntKind.i64.wrap (n * n_1) > (24:Int))) (R (V.tup [nilS,iv (2:Int)])) (onSome (ptl l)[k]? fun row=>onSome row[0]? fun v=>onIntK IntKind.i64 v fun n=>onSome (ptl l)[k]? fun row=>onSome row[1]? fun v=>onIntK IntKind.i64 v fun n_2=>La 0 [(0:Tmp),(4:Tmp),(5:Tmp),(6:Tmp),(7:Tmp),(6000000:Tmp)] (WY Tryd.prog cfE 2984 (Env.mk (Bs.mk 0 []) 0 none 84 34 2) (cdAt [1,1,1,0,1,0,0,1,0,0,1,1,0,1,0,0] (bodyOf Tryd.f34))) (Qblk 2 (Qthen (WY Tryd.prog cfE 2987 (Env.mk (Bs.mk 0 []) 0 none 84 34 1) (cdAt [1,1,1,0,1,0,0,1,0,0,1,1,1] (bodyOf Tryd.f34)) (Qblk 1 (Qthen (WY Tryd.prog cfE 2991 (Env.mk (Bs.mk 0 []) 0 none 84 34 0) (cdAt [1,1,1,0,1,0,0,1,1] (bodyOf Tryd.f34)) (Qla 0 [(0:Tmp),(4:Tmp),(5:Tmp),(6000000:Tmp)] J (Qblk 0 (Qthen (WY Tryd.prog cfE 2996 (Env.mk (Bs.mk 0 []) 0 none 84 34 0) (cdAt [1,1,1,1] (bodyOf Tryd.f34)) (QendX Tryd.prog Tryd.f34 fun v h=>R (frzW h v))) (QendX Tryd.prog Tryd.f34 fun v h=>R (frzW h v)))))) (Qla 0 [(0:Tmp),(4:Tmp),(5:Tmp),(6000000:Tmp)] J (Qblk 0 (Qthen (WY Tryd.prog cfE 2996 (Env.mk (Bs.mk 0 []) 0 none 84 34 0) (cdAt [1,1,1,1] (bodyOf Tryd.f34)) (QendX Tryd.prog Tryd.f34 fun v h=>R (frzW h v))) (QendX Tryd.prog Tryd.f34 fun v h=>R (frzW h v)))))))) (Qblk 1 (Qthen (WY Tryd.prog cfE 2991 (Env.mk (Bs.mk 0 []) 0 none 84 34 0) (cdAt [1,1,1,0,1,0,0,1,1] (bodyOf Tryd.f34)) (Qla 0 [(0:Tmp),(4:Tmp),(5:Tmp),(6000000:Tmp)] J (Qblk 0 (Qthen (WY Tryd.prog cfE 2996 (Env.mk (Bs.mk 0 []) 0 none 84 34 0) (cdAt [1,1,1,1] (bodyOf Tryd.f34)) (QendX Tryd.prog Tryd.f34 fun v h=>R (frzW h v))) (QendX Tryd.prog Tryd.f34 fun v h=>R (frzW h v)))))) (Qla 0 [(0:Tmp),(4:Tmp),(5:Tmp),(6000000:Tmp)] J (Qblk 0 (Qthen (WY Tryd.prog cfE 2996 (Env.mk (Bs.mk 0 []) 0 none 84 34 0) (cdAt [1,1,1,1] (bodyOf Tryd.f34)) (QendX Tryd.prog Tryd.f34 fun v h=>R (frzW h v))) (QendX Tryd.prog Tryd.f34 fun v h=>R (frzW h v))))))))) (St.mk (mkT [(0,V.lst 4 (ptl l)),(4,nilS),(5,iv (↑k:Int)),(6,V.ptr (Id.p 0) 0 0),(7,iv (0:Int))]) (Hp.mk [(0,O.rows 3 false [[nilS,nilS,iv (IntKind.i64.wrap (n * n_2))]])] 1 [])))) (R (V.tup [nilS,iv (0:Int)]))) (by kernel_rfl) ?_
  refine ifB_mk (fun hb=>?_) (fun hb=>?_) <;> rw [ptl_length] at hb
  ·have hlt:k<l.length:=by have:=of_decide_eq_true hb; omega
   obtain ⟨t,ht⟩:=getI hlt
   have hp:=q3 k t ht
   have ha:=area hp
   have hwr:IntKind.i64.wrap (t.1 * t.2.1)=(((t.1 * t.2.1).toNat:Nat):Int):=by rw [wr (by omega) (by omega)]; omega
   refine onSome_mk (ptl_get ht) (onSome_mk (x:=iv t.1) rfl (onIntK_iv (onSome_mk (ptl_get ht) (onSome_mk (x:=iv t.2.1) rfl (onIntK_iv ?_)))))
   rw [hwr]
   refine ifB_mk (fun c=>h2 fun f=>?_) (fun c=>?_)
   ·have:=f k t ht; have:=of_decide_eq_true c; omega
   have c:=of_decide_eq_false c
   refine onSome_mk (ptl_get ht) (onSome_mk (x:=iv t.1) rfl (onIntK_iv (onSome_mk (ptl_get ht) (onSome_mk (x:=iv t.2.1) rfl (onIntK_iv ?_)))))
   rw [hwr]
   refine loop34n ht hp (fun n hn=>hJ' ?_ (go t ht (by omega)))
   rw [wr (n:=(k:Int)+1) (by omega) (by omega),hn,num t hp,take_snoc ht,← g2]
   rw [g2,g3]
   rfl
  ·exfalso; have:=of_decide_eq_false hb; omega
 | true =>
  refine see (p:=ifB (decide ((↑k:Int)<(↑(ptl l).length:Int))) (onSome (ptl l)[k]? fun row=>onSome row[0]? fun v=>onIntK IntKind.i64 v fun n=>onSome (ptl l)[k]? fun row=>onSome row[1]? fun v=>onIntK IntKind.i64 v fun n_1=>ifB (decide (IntKind.i64.wrap (n * n_1) > (24:Int))) (R (V.tup [nilS,iv (2:Int)])) (onSome (ptl l)[k]? fun row=>onSome row[0]? fun v=>onIntK IntKind.i64 v fun n=>onSome (ptl l)[k]? fun row=>onSome row[1]? fun v=>onIntK IntKind.i64 v fun n_2=>La 0 [(0:Tmp),(4:Tmp),(5:Tmp),(6:Tmp),(7:Tmp),(6000000:Tmp)] (WY Tryd.prog cfE 2984 (Env.mk (Bs.mk 0 []) 0 none 84 34 2) (cdAt [1,1,1,0,1,0,0,1,0,0,1,1,0,1,0,0] (bodyOf Tryd.f34))) (Qblk 2 (Qthen (WY Tryd.prog cfE 2987 (Env.mk (Bs.mk 0 []) 0 none 84 34 1) (cdAt [1,1,1,0,1,0,0,1,0,0,1,1,1] (bodyOf Tryd.f34)) (Qblk 1 (Qthen (WY Tryd.prog cfE 2991 (Env.mk (Bs.mk 0 []) 0 none 84 34 0) (cdAt [1,1,1,0,1,0,0,1,1] (bodyOf Tryd.f34)) (Qla 0 [(0:Tmp),(4:Tmp),(5:Tmp),(6000000:Tmp)] J (Qblk 0 (Qthen (WY Tryd.prog cfE 2996 (Env.mk (Bs.mk 0 []) 0 none 84 34 0) (cdAt [1,1,1,1] (bodyOf Tryd.f34)) (QendX Tryd.prog Tryd.f34 fun v h=>R (frzW h v))) (QendX Tryd.prog Tryd.f34 fun v h=>R (frzW h v)))))) (Qla 0 [(0:Tmp),(4:Tmp),(5:Tmp),(6000000:Tmp)] J (Qblk 0 (Qthen (WY Tryd.prog cfE 2996 (Env.mk (Bs.mk 0 []) 0 none 84 34 0) (cdAt [1,1,1,1] (bodyOf Tryd.f34)) (QendX Tryd.prog Tryd.f34 fun v h=>R (frzW h v))) (QendX Tryd.prog Tryd.f34 fun v h=>R (frzW h v)))))))) (Qblk 1 (Qthen (WY Tryd.prog cfE 2991 (Env.mk (Bs.mk 0 []) 0 none 84 34 0) (cdAt [1,1,1,0,1,0,0,1,1] (bodyOf Tryd.f34)) (Qla 0 [(0:Tmp),(4:Tmp),(5:Tmp),(6000000:Tmp)] J (Qblk 0 (Qthen (WY Tryd.prog cfE 2996 (Env.mk (Bs.mk 0 []) 0 none 84 34 0) (cdAt [1,1,1,1] (bodyOf Tryd.f34)) (QendX Tryd.prog Tryd.f34 fun v h=>R (frzW h v))) (QendX Tryd.prog Tryd.f34 fun v h=>R (frzW h v)))))) (Qla 0 [(0:Tmp),(4:Tmp),(5:Tmp),(6000000:Tmp)] J (Qblk 0 (Qthen (WY Tryd.prog cfE 2996 (Env.mk (Bs.mk 0 []) 0 none 84 34 0) (cdAt [1,1,1,1] (bodyOf Tryd.f34)) (QendX Tryd.prog Tryd.f34 fun v h=>R (frzW h v))) (QendX Tryd.prog Tryd.f34 fun v h=>R (frzW h v))))))))) (St.mk (mkT [(0,V.lst 4 (ptl l)),(4,V.sl (Id.p 0) 0 q.length),(5,iv (↑k:Int)),(6,V.ptr (Id.p 1) 0 0),(7,iv (0:Int))]) (Hp.mk [(0,O.rows 3 true (kndl q)),(1,O.rows 3 false [[nilS,nilS,iv (IntKind.i64.wrap (n * n_2))]])] 2 [])))) (R (V.tup [V.lst 3 (sub (kndl q) 0 q.length),iv (0:Int)]))) (by kernel_rfl) ?_
  refine ifB_mk (fun hb=>?_) (fun hb=>?_) <;> rw [ptl_length] at hb
  ·have hlt:k<l.length:=by have:=of_decide_eq_true hb; omega
   obtain ⟨t,ht⟩:=getI hlt
   have hp:=q3 k t ht
   have ha:=area hp
   have hwr:IntKind.i64.wrap (t.1 * t.2.1)=(((t.1 * t.2.1).toNat:Nat):Int):=by rw [wr (by omega) (by omega)]; omega
   refine onSome_mk (ptl_get ht) (onSome_mk (x:=iv t.1) rfl (onIntK_iv (onSome_mk (ptl_get ht) (onSome_mk (x:=iv t.2.1) rfl (onIntK_iv ?_)))))
   rw [hwr]
   refine ifB_mk (fun c=>h2 fun f=>?_) (fun c=>?_)
   ·have:=f k t ht; have:=of_decide_eq_true c; omega
   have c:=of_decide_eq_false c
   refine onSome_mk (ptl_get ht) (onSome_mk (x:=iv t.1) rfl (onIntK_iv (onSome_mk (ptl_get ht) (onSome_mk (x:=iv t.2.1) rfl (onIntK_iv ?_)))))
   rw [hwr]
   refine loop34s ht hp (by rw [g2,List.length_take]; omega) (fun n hn=>hJ' ?_ (go t ht (by omega)))
   rw [wr (n:=(k:Int)+1) (by omega) (by omega),hn,num t hp,take_snoc ht,← g2]
   simp only [sh20s]
   rw [take_len (kndl_len _),kndl_snoc,List.length_append]
   rfl
  ·have hk:k=l.length:=by have:=of_decide_eq_false hb; omega
   rw [sub_all (kndl_len _),g2,hk,List.take_length]
   exact h0 fun i x hx=>g4 i x (by have:=(List.getElem?_eq_some_iff.1 hx).1; omega) hx
set_option maxRecDepth 100000
def kpS:FuncId→Nat→Option (List Tmp):=slotsOf [(36,0,[2,3,32,33]),(36,2,[2,3,50,51])]
noncomputable def cfS:Cfg:=cfgM Tryd.prog glX (fun _=>0) (fun _=>none) (inN []) kpS
noncomputable def sh22a (w:Int) (n:Nat) (a:Int) (k:Nat):St:=⟨mkT [(2,V.ptr (Id.p 0) 0 0),(3,V.ptr (Id.p 1) 0 0),(32,iv ((gcl w n).length:Int)),(33,iv (k:Int))],⟨[(0,O.rows 3 false [[V.lst 3 (gcl w n),V.lst 5 (gkn w n),iv a]]),(1,O.rows 3 false [[V.lst 3 (gcl w n),V.lst 5 (gkn w n),iv a]])],2,[]⟩⟩
noncomputable def sh22b (w:Int) (n:Nat) (a:Int) (k:Nat):St:=⟨mkT [(2,V.ptr (Id.p 0) 0 0),(3,V.ptr (Id.p 1) 0 0),(50,iv ((gkn w n).length:Int)),(51,iv (k:Int))],⟨[(0,O.rows 3 false [[V.lst 3 (gcl w n),V.lst 5 (gkn w n),iv a]]),(1,O.rows 3 false [[V.lst 3 (gcl w n),V.lst 5 (gkn w n),iv a]])],2,[]⟩⟩
set_option maxRecDepth 10000
theorem hcS:cfS.ok Tryd.prog:=cfgM_ok
theorem gcl_get {w:Int} {n k:Nat} (h:k<n) : ∃ p q:Int,(gcl w n)[k]? = some [iv p,iv q,iv 0]:=⟨_,_,by simp [gcl,h]; exact ⟨rfl,rfl⟩⟩
theorem gkn_mem {w:Int} : ∀ {n:Nat} {row:List V},row∈gkn w n → ∃ p q d s:Int,row=[iv p,iv q,iv 0,u8v d,u8v s]
 | 0,row,h=>by simp [gkn] at h
 | n+1,row,h=>by
  rw [gkn_snoc] at h
  rcases List.mem_append.1 h with q | q
  ·exact gkn_mem q
  ·rcases List.mem_cons.1 q with e | q
   ·exact ⟨_,_,_,_,e⟩
   ·rcases List.mem_cons.1 q with e | q
    ·exact ⟨_,_,_,_,e⟩
    ·cases q
theorem gkn_get {w:Int} {n k:Nat} (h:k<2 * n) : ∃ p q d s:Int,(gkn w n)[k]? = some [iv p,iv q,iv 0,u8v d,u8v s]:=by
 obtain ⟨row,hr⟩:=getI (l:=gkn w n) (k:=k) (by rw [gkn_len]; exact h)
 obtain ⟨p,q,d,s,e⟩:=gkn_mem (List.mem_of_getElem? hr)
 exact ⟨p,q,d,s,e ▸ hr⟩
theorem eq22 {w:Int} {n:Nat} {a:Int} {R:V→Prop}:(ifB ((↑(gcl w n).length:Int) != (↑(gcl w n).length:Int)) (R (bv false)) (ifB ((↑(gkn w n).length:Int) != (↑(gkn w n).length:Int)) (R (bv false)) (ifB (a != a) (R (bv false)) (La 0 [(2:Tmp),(3:Tmp),(32:Tmp),(33:Tmp)] (WY Tryd.prog cfS 2994 (Env.mk (Bs.mk 0 []) 0 none 66 36 0) (cdAt [1,1,0,1,0,0] (bodyOf Tryd.f36))) (Qblk 0 (Qthen (WY Tryd.prog cfS 2997 (Env.mk (Bs.mk 0 []) 0 none 66 36 0) (cdAt [1,1,1] (bodyOf Tryd.f36)) (QendX Tryd.prog Tryd.f36 fun v h=>R (frzW h v))) (QendX Tryd.prog Tryd.f36 fun v h=>R (frzW h v)))) (St.mk (mkT [(2,V.ptr (Id.p 0) 0 0),(3,V.ptr (Id.p 1) 0 0),(32,iv (↑(gcl w n).length:Int)),(33,iv (0:Int))]) (Hp.mk [(0,O.rows 3 false [[V.lst 3 (gcl w n),V.lst 5 (gkn w n),iv a]]),(1,O.rows 3 false [[V.lst 3 (gcl w n),V.lst 5 (gkn w n),iv a]])] 2 []))))))=WY0 Tryd.prog cfS 3000 36 Tryd.f36 [.agg [.lst 3 (gcl w n),.lst 5 (gkn w n),iv a],.agg [.lst 3 (gcl w n),.lst 5 (gkn w n),iv a]] R:=by kernel_rfl
theorem same22 {w:Int} {n:Nat} {a:Int} {R:V→Prop} (hn:n≤1000) (h:R (bv true)):K0G Tryd.prog glX 36 [.agg [.lst 3 (gcl w n),.lst 5 (gkn w n),iv a],.agg [.lst 3 (gcl w n),.lst 5 (gkn w n),iv a]] R:=by
 refine K0_by hmX hcS 3000 Tryd.func36 eq22 ?_
 refine ifB_f (by simp) (ifB_f (by simp) (ifB_f (by simp) ?_))
 refine La.of (σ:=Nat) (fun k=>sh22a w n a k) (fun k=>k≤n) (fun k=>n - k) 0 (by kernel_rfl) (by simp) ?_
 intro k g1 J hJ
 refine see (p:=ifB (decide ((↑k:Int)<(↑(gcl w n).length:Int))) (onSome (gcl w n)[k]? fun row=>onCons (List.drop 0 row) fun u r=>onIntK IntKind.i64 u fun n_1=>onCons r fun u r=>onIntK IntKind.i64 u fun n_2=>onCons r fun u r=>onIntK IntKind.i64 u fun n_3=>onSome (gcl w n)[k]? fun row=>onCons (List.drop 0 row) fun u r=>onIntK IntKind.i64 u fun n_4=>onCons r fun u r=>onIntK IntKind.i64 u fun n_5=>onCons r fun u r=>onIntK IntKind.i64 u fun n_6=>ifB (!(fun b=>n_1==n_4&&b) ((fun b=>n_2==n_5&&b) ((fun b=>n_3==n_6&&b) true))) (R (bv false)) (J (St.mk (mkT [(2,V.ptr (Id.p 0) 0 0),(3,V.ptr (Id.p 1) 0 0),(32,iv (↑(gcl w n).length:Int)),(33,iv (IntKind.i64.wrap ((↑k:Int)+(1:Int))))]) (Hp.mk [(0,O.rows 3 false [[V.lst 3 (gcl w n),V.lst 5 (gkn w n),iv a]]),(1,O.rows 3 false [[V.lst 3 (gcl w n),V.lst 5 (gkn w n),iv a]])] 2 [])))) (La 0 [(2:Tmp),(3:Tmp),(50:Tmp),(51:Tmp)] (WY Tryd.prog cfS 2993 (Env.mk (Bs.mk 0 []) 0 none 66 36 2) (cdAt [1,1,1,0,1,0,0] (bodyOf Tryd.f36))) (Qblk 2 (Qthen (WY Tryd.prog cfS 2996 (Env.mk (Bs.mk 0 []) 0 none 66 36 0) (cdAt [1,1,1,1] (bodyOf Tryd.f36)) (QendX Tryd.prog Tryd.f36 fun v h=>R (frzW h v))) (QendX Tryd.prog Tryd.f36 fun v h=>R (frzW h v)))) (St.mk (mkT [(2,V.ptr (Id.p 0) 0 0),(3,V.ptr (Id.p 1) 0 0),(50,iv (↑(gkn w n).length:Int)),(51,iv (0:Int))]) (Hp.mk [(0,O.rows 3 false [[V.lst 3 (gcl w n),V.lst 5 (gkn w n),iv a]]),(1,O.rows 3 false [[V.lst 3 (gcl w n),V.lst 5 (gkn w n),iv a]])] 2 [])))) (by kernel_rfl) ?_
 refine ifB_mk (fun hb=>?_) (fun hb=>?_) <;> rw [gcl_len] at hb
 ·have hlt:k<n:=by have:=of_decide_eq_true hb; omega
  obtain ⟨p,q,e⟩:=gcl_get (w:=w) hlt
  refine onSome_mk e (onCons_cons (onIntK_iv (onCons_cons (onIntK_iv (onCons_cons (onIntK_iv ?_))))))
  refine onSome_mk e (onCons_cons (onIntK_iv (onCons_cons (onIntK_iv (onCons_cons (onIntK_iv ?_))))))
  refine ifB_f (by simp) ?_
  rw [wr1i hlt (by omega)]
  exact hJ (k+1) (by omega) (by omega)
 ·refine La.of (σ:=Nat) (fun k=>sh22b w n a k) (fun k=>k≤2 * n) (fun k=>2 * n - k) 0 (by kernel_rfl) (by simp) ?_
  intro k g1 J2 hJ2
  refine see (p:=ifB (decide ((↑k:Int)<(↑(gkn w n).length:Int))) (onSome (gkn w n)[k]? fun row=>onCons (List.drop 0 row) fun u r=>onIntK IntKind.i64 u fun n_1=>onCons r fun u r=>onIntK IntKind.i64 u fun n_2=>onCons r fun u r=>onIntK IntKind.i64 u fun n_3=>onCons r fun u r=>onIntK IntKind.u8 u fun n_4=>onCons r fun u r=>onIntK IntKind.u8 u fun n_5=>onSome (gkn w n)[k]? fun row=>onCons (List.drop 0 row) fun u r=>onIntK IntKind.i64 u fun n_6=>onCons r fun u r=>onIntK IntKind.i64 u fun n_7=>onCons r fun u r=>onIntK IntKind.i64 u fun n_8=>onCons r fun u r=>onIntK IntKind.u8 u fun n_9=>onCons r fun u r=>onIntK IntKind.u8 u fun n_10=>ifB (!(fun b=>(fun b=>n_1==n_6&&b) ((fun b=>n_2==n_7&&b) ((fun b=>n_3==n_8&&b) true))&&b) ((fun b=>n_4==n_9&&b) ((fun b=>n_5==n_10&&b) true))) (R (bv false)) (J2 (St.mk (mkT [(2,V.ptr (Id.p 0) 0 0),(3,V.ptr (Id.p 1) 0 0),(50,iv (↑(gkn w n).length:Int)),(51,iv (IntKind.i64.wrap ((↑k:Int)+(1:Int))))]) (Hp.mk [(0,O.rows 3 false [[V.lst 3 (gcl w n),V.lst 5 (gkn w n),iv a]]),(1,O.rows 3 false [[V.lst 3 (gcl w n),V.lst 5 (gkn w n),iv a]])] 2 [])))) (R (bv true))) (by kernel_rfl) ?_
  refine ifB_mk (fun hb=>?_) (fun hb=>h) <;> rw [gkn_len] at hb
  have hlt:k<2 * n:=by have:=of_decide_eq_true hb; omega
  obtain ⟨p,q,d,s,e⟩:=gkn_get (w:=w) hlt
  refine onSome_mk e (onCons_cons (onIntK_iv (onCons_cons (onIntK_iv (onCons_cons (onIntK_iv (onCons_cons (onIntK_u8 (onCons_cons (onIntK_u8 ?_))))))))))
  refine onSome_mk e (onCons_cons (onIntK_iv (onCons_cons (onIntK_iv (onCons_cons (onIntK_iv (onCons_cons (onIntK_u8 (onCons_cons (onIntK_u8 ?_))))))))))
  refine ifB_f (by simp) ?_
  rw [wr1i hlt (by omega)]
  exact hJ2 (k+1) (by omega) (by omega)
set_option maxRecDepth 100000
def kpL:FuncId→Nat→Option (List Tmp):=slotsOf [(5,0,[11,13,66,67,6000000])]
noncomputable def cfL:Cfg:=cfgD Tryd.prog glX (fun _=>0) (fun _=>[]) (inN [11]) kpL
noncomputable def sh5 (a b:Nat) (p q:List (List V)) (k:Nat):St:=⟨mkT [(11,V.lst a p),(13,V.lst b q),(66,iv (p.length:Int)),(67,iv (k:Int))],⟨[],0,[]⟩⟩
set_option maxRecDepth 10000
theorem hcL:cfL.ok Tryd.prog:=cfgD_ok
theorem brV_open (bs:List Br) : ∃ s,(s=6∨bs=[]) ∧ ∀ {k:Nat→List (List V)→Prop},k s (brl bs)→onLst (brV bs) k:=by
 cases bs with
 | nil=>exact ⟨0,.inr rfl,fun h=>onLst_nil h⟩
 | cons x r=>exact ⟨6,.inl rfl,fun h=>onLst_lst h⟩
theorem modPair {w d h:Int} {u:Nat} {c:List Nat} {l:List Pt} {sc:Nat} {cs:List Ld} (hu:u=1∨c=[]) (hsc:sc=5∨cs=[]) (hcs:cs.length≤900) {F:Nat→List (List V)→Int→Nat→List (List V)→Int→Prop} (hF : ∀ (s:Nat) (bs:List Br) (n:Int),(s=6∨bs=[])→bs.length≤900→F s (brl bs) n s (brl bs) n):K0G Tryd.prog glX 31 [V.agg [iv w,iv d,iv h,V.lst u (nb c)],V.lst 4 (ptl l),V.lst sc (ldl cs)] fun v=>onTup v fun vs=>onCons vs fun u_1 r=>onAgg u_1 fun cs_1=>onCons cs_1 fun u_2 r_1=>onLst u_2 fun s es=>onNil r_1 (onCons r fun u_3 r=>onIntK IntKind.i64 u_3 fun n=>onNil r (K0G Tryd.prog glX 32 [V.agg [iv w,iv d,iv h,V.lst u (nb c)],V.lst 4 (ptl l),V.lst sc (ldl cs)] fun v=>onTup v fun vs=>onCons vs fun u r=>onAgg u fun cs=>onCons cs fun u r_2=>onLst u fun s_1 es_1=>onNil r_2 (onCons r fun u r=>onIntK IntKind.i64 u fun n_1=>onNil r (F s es n s_1 es_1 n_1)))):=by
 have T0 : ∀ {n:Int} {K:Nat→List (List V)→Int→Prop},K 0 [] n→onTup (V.tup [.agg [nilS],iv n]) fun vs=>onCons vs fun u_1 r=>onAgg u_1 fun cs_1=>onCons cs_1 fun u_2 r_1=>onLst u_2 fun s es=>onNil r_1 (onCons r fun u_3 r=>onIntK IntKind.i64 u_3 fun n=>onNil r (K s es n)):=fun hk=>onTup_tup (onCons_cons (onAgg_agg (onCons_cons (onLst_nil (onNil_nil (onCons_cons (onIntK_iv (onNil_nil hk))))))))
 have h0 : ∀ n,F 0 [] n 0 [] n:=fun n=>hF 0 [] n (.inr rfl) (by simp)
 refine model31 hu hsc hcs (fun q=>T0 ?_) (fun hs q=>T0 ?_) (fun hs hpt q=>T0 ?_) (fun hs hpt ps hps=>?_)
 ·exact model32 hu hsc hcs (fun _=>T0 (h0 _)) (fun hs=>absurd hs q) (fun hs=>absurd hs q) (fun hs=>absurd hs q)
 ·exact model32 hu hsc hcs (fun q' => absurd hs q') (fun _ _=>T0 (h0 _)) (fun _ hpt=>absurd hpt q) (fun _ hpt=>absurd hpt q)
 ·exact model32 hu hsc hcs (fun q' => absurd hs q') (fun _ q' => absurd hpt q') (fun _ _ _=>T0 (h0 _)) (fun _ _ hc=>by obtain ⟨ps,hps⟩:=laid_of hs hpt hc; rw [q] at hps; cases hps)
 ·obtain ⟨s,h1,h2⟩:=brV_open (cs.map (brk w d h c l))
  refine onTup_tup (onCons_cons (onAgg_agg (onCons_cons (h2 (onNil_nil (onCons_cons (onIntK_iv (onNil_nil ?_))))))))
  exact model32 hu hsc hcs (fun q' => absurd hs q') (fun _ q' => absurd hpt q') (fun _ _ q' => absurd (comp_of hs hpt hps) q') (fun _ _ _=>onTup_tup (onCons_cons (onAgg_agg (onCons_cons (h2 (onNil_nil (onCons_cons (onIntK_iv (onNil_nil (hF s _ _ h1 (by rw [List.length_map]; exact hcs)))))))))))
theorem kinPair {l:List Pt} {F:Nat→List (List V)→Int→Nat→List (List V)→Int→Prop} (h0 : ∀ n,F 0 [] n 0 [] n) (h:PtOK l → ∀ n,F 3 (kndl l) n 3 (kndl l) n):K0G Tryd.prog glX 33 [V.lst 4 (ptl l)] fun v=>onTup v fun vs=>onCons vs fun u r=>onLst u fun s_2 es_2=>onCons r fun u r=>onIntK IntKind.i64 u fun n_2=>onNil r (K0G Tryd.prog glX 34 [V.lst 4 (ptl l)] fun v=>onTup v fun vs=>onCons vs fun u r=>onLst u fun s_3 es_3=>onCons r fun u r=>onIntK IntKind.i64 u fun n_3=>onNil r (F s_2 es_2 n_2 s_3 es_3 n_3)):=by
 have T0 : ∀ {n:Int} {K:Nat→List (List V)→Int→Prop},K 0 [] n→onTup (V.tup [nilS,iv n]) fun vs=>onCons vs fun u r=>onLst u fun s_2 es_2=>onCons r fun u r=>onIntK IntKind.i64 u fun n_2=>onNil r (K s_2 es_2 n_2):=fun hk=>onTup_tup (onCons_cons (onLst_nil (onCons_cons (onIntK_iv (onNil_nil hk)))))
 have T3 : ∀ {n:Int} {es:List (List V)} {K:Nat→List (List V)→Int→Prop},K 3 es n→onTup (V.tup [.lst 3 es,iv n]) fun vs=>onCons vs fun u r=>onLst u fun s_2 es_2=>onCons r fun u r=>onIntK IntKind.i64 u fun n_2=>onNil r (K s_2 es_2 n_2):=fun hk=>onTup_tup (onCons_cons (onLst_lst (onCons_cons (onIntK_iv (onNil_nil hk)))))
 refine kinds19 (fun q=>T0 ?_) (fun q q' => T0 ?_) (fun q q' => T3 ?_)
 ·exact kinds34 (fun _=>T0 (h0 _)) (fun p=>absurd p q) (fun p=>absurd p q)
 ·exact kinds34 (fun p=>absurd q p) (fun _ _=>T0 (h0 _)) (fun _ p=>absurd p q')
 ·exact kinds34 (fun p=>absurd q p) (fun _ p=>absurd q' p) (fun _ _=>T3 (h q _))
theorem law5 {w d h:Int} {u:Nat} {c:List Nat} {l:List Pt} {sc:Nat} {cs:List Ld} {R:V→Prop} (hu:u=1∨c=[]) (hsc:sc=5∨cs=[]) (hR:R (bv true)):K0G Tryd.prog glX 5 [.agg [iv w,iv d,iv h,.lst u (nb c)],.lst 4 (ptl l),.lst sc (ldl cs)] R:=by
 refine K0_of_WY0 hmX hcL 3000 Tryd.func5 (see (p:=ifB (decide ((↑(nb c).length:Int) > (600:Int))) (R (bv true)) (ifB (decide ((↑(ptl l).length:Int) > (20:Int))) (R (bv true)) (ifB (decide ((↑(ldl cs).length:Int) > (30:Int))) (R (bv true)) (K0G Tryd.prog glX 31 [V.agg [iv w,iv d,iv h,V.lst u (nb c)],V.lst 4 (ptl l),V.lst sc (ldl cs)] fun v=>onTup v fun vs=>onCons vs fun u_1 r=>onAgg u_1 fun cs_1=>onCons cs_1 fun u_2 r_1=>onLst u_2 fun s es=>onNil r_1 (onCons r fun u_3 r=>onIntK IntKind.i64 u_3 fun n=>onNil r (K0G Tryd.prog glX 32 [V.agg [iv w,iv d,iv h,V.lst u (nb c)],V.lst 4 (ptl l),V.lst sc (ldl cs)] fun v=>onTup v fun vs=>onCons vs fun u r=>onAgg u fun cs=>onCons cs fun u r_2=>onLst u fun s_1 es_1=>onNil r_2 (onCons r fun u r=>onIntK IntKind.i64 u fun n_1=>onNil r (K0G Tryd.prog glX 33 [V.lst 4 (ptl l)] fun v=>onTup v fun vs=>onCons vs fun u r=>onLst u fun s_2 es_2=>onCons r fun u r=>onIntK IntKind.i64 u fun n_2=>onNil r (K0G Tryd.prog glX 34 [V.lst 4 (ptl l)] fun v=>onTup v fun vs=>onCons vs fun u r=>onLst u fun s_3 es_3=>onCons r fun u r=>onIntK IntKind.i64 u fun n_3=>onNil r (K0G Tryd.prog glX 35 [V.agg [V.lst s es],V.agg [V.lst s_1 es_1]] fun v=>onBool v fun b=>ifB (!b) (R (bv false)) (ifB (n != n_1) (R (bv false)) (ifB (n_2 != n_3) (R (bv false)) (ifB ((↑es_2.length:Int) != (↑es_3.length:Int)) (R (bv false)) (La 0 [(11:Tmp),(13:Tmp),(66:Tmp),(67:Tmp),(6000000:Tmp)] (WY Tryd.prog cfL 2989 (Env.mk (Bs.mk 0 []) 0 none 81 5 0) (cdAt [1,1,1,1,1,1,1,0,1,0,0] (bodyOf Tryd.f5))) (Qblk 0 (Qthen (WY Tryd.prog cfL 2992 (Env.mk (Bs.mk 0 []) 0 none 81 5 0) (cdAt [1,1,1,1,1,1,1,1] (bodyOf Tryd.f5)) (QendX Tryd.prog Tryd.f5 fun v h=>R (frzW h v))) (QendX Tryd.prog Tryd.f5 fun v h=>R (frzW h v)))) (St.mk (mkT [(11,V.lst s_2 es_2),(13,V.lst s_3 es_3),(66,iv (↑es_2.length:Int)),(67,iv (0:Int))]) (Hp.mk [] 0 [])))))))))))))))) (by kernel_rfl) ?_)
 refine ifB_mk (fun _=>hR) (fun a1=>ifB_mk (fun _=>hR) (fun a2=>ifB_mk (fun _=>hR) (fun a3=>?_)))
 have a3:=of_decide_eq_false a3
 rw [ldl_length] at a3
 refine modPair hu hsc (by omega) (fun s bs n hs hb=>kinPair (fun m=>same35 hs (by omega) (onBool_bv (ifB_f rfl (ifB_f (by simp) (ifB_f (by simp) (ifB_f (by simp) ?_)))))) (fun hpt m=>same35 hs (by omega) (onBool_bv (ifB_f rfl (ifB_f (by simp) (ifB_f (by simp) (ifB_f (by simp) ?_)))))))
 ·obtain ⟨a,ha⟩ : ∃ a:Nat,a=0:=⟨_,rfl⟩
  obtain ⟨b,hb'⟩ : ∃ b:Nat,b=0:=⟨_,rfl⟩
  obtain ⟨p,hp⟩ : ∃ p:List (List V),p=[]:=⟨_,rfl⟩
  obtain ⟨q,hq⟩ : ∃ q:List (List V),q=[]:=⟨_,rfl⟩
  refine La.of (σ:=Nat) (fun k=>sh5 0 0 [] [] k) (fun k=>k=0) (fun k=>1 - k) 0 (by kernel_rfl) rfl ?_
  rintro k k1 J hJ
  have e:sh5 0 0 [] [] k=sh5 a b p q k:=by rw [ha,hb', hp,hq]
  rw [e]
  refine see (p:=ifB (decide ((↑k:Int)<(↑p.length:Int))) (need (a=3) (onSome p[k]? fun row=>onCons (List.drop 0 row) fun u r=>onLst u fun s es=>onCons r fun u r=>onLst u fun s_1 es_1=>onCons r fun u r=>onIntK IntKind.i64 u fun n=>need (b=3) (onSome q[k]? fun row=>onCons (List.drop 0 row) fun u r=>onLst u fun s_2 es_2=>onCons r fun u r=>onLst u fun s_3 es_3=>onCons r fun u r=>onIntK IntKind.i64 u fun n_1=>K0G Tryd.prog glX 36 [V.agg [V.lst s es,V.lst s_1 es_1,iv n],V.agg [V.lst s_2 es_2,V.lst s_3 es_3,iv n_1]] fun v=>onBool v fun b_1=>ifB (!b_1) (R (bv false)) (J (St.mk (mkT [(11,V.lst a p),(13,V.lst b q),(66,iv (↑p.length:Int)),(67,iv (IntKind.i64.wrap ((↑k:Int)+(1:Int))))]) (Hp.mk [] 0 [])))))) (R (bv true))) (by kernel_rfl) ?_
  exact ifB_f (decide_eq_false (by rw [hp]; simp)) hR
 ·obtain ⟨a,ha⟩ : ∃ a:Nat,a=3:=⟨_,rfl⟩
  obtain ⟨b,hb'⟩ : ∃ b:Nat,b=3:=⟨_,rfl⟩
  obtain ⟨p,hp⟩ : ∃ p:List (List V),p=kndl l:=⟨_,rfl⟩
  obtain ⟨q,hq⟩ : ∃ q:List (List V),q=kndl l:=⟨_,rfl⟩
  refine La.of (σ:=Nat) (fun k=>sh5 3 3 (kndl l) (kndl l) k) (fun k=>k≤l.length) (fun k=>l.length - k) 0 (by kernel_rfl) (Nat.zero_le _) ?_
  rintro k k1 J hJ
  have e : ∀ k,sh5 3 3 (kndl l) (kndl l) k=sh5 a b p q k:=fun k=>by rw [ha,hb', hp,hq]
  rw [e]
  refine see (p:=ifB (decide ((↑k:Int)<(↑p.length:Int))) (need (a=3) (onSome p[k]? fun row=>onCons (List.drop 0 row) fun u r=>onLst u fun s es=>onCons r fun u r=>onLst u fun s_1 es_1=>onCons r fun u r=>onIntK IntKind.i64 u fun n=>need (b=3) (onSome q[k]? fun row=>onCons (List.drop 0 row) fun u r=>onLst u fun s_2 es_2=>onCons r fun u r=>onLst u fun s_3 es_3=>onCons r fun u r=>onIntK IntKind.i64 u fun n_1=>K0G Tryd.prog glX 36 [V.agg [V.lst s es,V.lst s_1 es_1,iv n],V.agg [V.lst s_2 es_2,V.lst s_3 es_3,iv n_1]] fun v=>onBool v fun b_1=>ifB (!b_1) (R (bv false)) (J (St.mk (mkT [(11,V.lst a p),(13,V.lst b q),(66,iv (↑p.length:Int)),(67,iv (IntKind.i64.wrap ((↑k:Int)+(1:Int))))]) (Hp.mk [] 0 [])))))) (R (bv true))) (by kernel_rfl) ?_
  have hpl:p.length=l.length:=by rw [hp,kndl_len]
  have h8:=hpt.1
  refine ifB_mk (fun hb=>?_) (fun _=>hR)
  rw [hpl] at hb
  have hlt:k<l.length:=by have:=of_decide_eq_true hb; omega
  obtain ⟨x,hx⟩:=getI hlt
  have hxp:=hpt.2.1 k x hx
  have har:=area hxp
  have hrow:(kndl l)[k]? = some (knd x):=by simp [kndl,hx]
  rw [wrapI (n:=(k:Int)+1) (by omega) (by omega)]
  refine need_mk ⟨ha,onSome_mk (x:=knd x) (by rw [hp]; exact hrow) (onCons_cons (onLst_lst (onCons_cons (onLst_lst (onCons_cons (onIntK_iv ?_))))))⟩
  refine need_mk ⟨hb', onSome_mk (x:=knd x) (by rw [hq]; exact hrow) (onCons_cons (onLst_lst (onCons_cons (onLst_lst (onCons_cons (onIntK_iv ?_))))))⟩
  refine same22 (by omega) (onBool_bv (ifB_f rfl ?_))
  have:=hJ (k+1) hlt (by omega)
  rw [e] at this
  exact this
theorem nb_raw {l:List Int} (h : ∀ x∈l,0≤x):nb (l.map Int.toNat)=l.map fun x=>[V.raw (.int .u8 x)]:=by
 unfold nb
 rw [List.map_map]
 refine List.map_congr_left fun x hx=>?_
 have:=h x hx
 show [u8v ((x.toNat:Nat):Int)]=_
 rw [Int.toNat_of_nonneg this]
 rfl
theorem ptl_raw {l:List (Int×Int×Int×Int)} (h : ∀ x∈l,0≤x.2.2.2):ptl (l.map fun x=>(x.1,x.2.1,x.2.2.1,x.2.2.2.toNat))=l.map fun x=>[V.raw (.int .i64 x.1),V.raw (.int .i64 x.2.1),V.raw (.int .i64 x.2.2.1),V.raw (.int .u8 x.2.2.2)]:=by
 unfold ptl
 rw [List.map_map]
 refine List.map_congr_left fun x hx=>?_
 have:=h x hx
 show [iv x.1,iv x.2.1,iv x.2.2.1,u8v ((x.2.2.2.toNat:Nat):Int)]=_
 rw [Int.toNat_of_nonneg this]
 rfl
theorem law5' {x0:Int×Int×Int×List Int} {x1:List (Int×Int×Int×Int)} {x2:List (Int×(Int×Int×Int)×Bool)} (h0 : ∀ x∈x0.2.2.2,0≤x) (h1 : ∀ x∈x1,0≤x.2.2.2) {R:V→Prop} (hR:R (bv true)):K0G Tryd.prog glX 5 [.agg [.raw (.int .i64 x0.1),.raw (.int .i64 x0.2.1),.raw (.int .i64 x0.2.2.1),.lst 1 (x0.2.2.2.map fun x=>[V.raw (.int .u8 x)])],.lst 4 (x1.map fun x=>[V.raw (.int .i64 x.1),V.raw (.int .i64 x.2.1),V.raw (.int .i64 x.2.2.1),V.raw (.int .u8 x.2.2.2)]),.lst 5 (ldl x2)] R:=by
 rw [← nb_raw h0,← ptl_raw h1]
 exact law5 (.inl rfl) (.inl rfl) hR
end Go.Proofs.YtkkgicjioajimaaDoor
namespace Go.Proofs.YtkkgicjioajimaaDoor.Clean
open Go.Deep
set_option linter.unusedSimpArgs false
set_option linter.unusedVariables false
section
variable {H:Type} (enc:TypeId×Value→H) (P:Program) (w:World)
def FW (r:Nat):Prop:=r<w.heap.size
def Opens (t:TypeId) {α:Type} (f:α→List V) (ok:α→Prop):Prop :=
 ∀ fuel cs x,DataW.trod enc P w 0 (fun _=>true) true fuel t cs=some x → ∃ a,riL (FW w) w (f a) cs∧ok a ∧ ∀ u∈cs,u.oneCell' = true
def OpensF (total:Nat) (off:Nat) (fs:List Field) {α:Type} (f:α→List V) (ok:α→Prop):Prop :=
 ∀ n (cs:List Value),cs.length=total→(∀ fd∈fs, ∃ x,DataW.trod enc P w 0 (fun _=>true) true n fd.type ((cs.drop fd.offset).take (P.cellsOf fd.type))=some x) →
  ∃ a,riL (FW w) w (f a) (cs.drop off)∧ok a ∧ ∀ u∈cs.drop off,u.oneCell' = true
end
section
variable {H:Type} {enc:TypeId×Value→H} {P:Program} {w:World}
theorem riL_append : ∀ {vs us:List V} {xs ys:List Value},riL (FW w) w vs xs→riL (FW w) w us ys→riL (FW w) w (vs++us) (xs++ys)
 | [],us,xs,ys,h,k=>by simp only [riL] at h; subst h; simpa using k
 | v::vs,us,xs,ys,h,k=>by
  simp only [riL] at h
  obtain ⟨x,zs,rfl,h2,h3⟩:=h
  simp only [List.cons_append,riL]
  exact ⟨x,zs++ys,rfl,h2,riL_append h3 k⟩
theorem riL_one {v:V} {x:Value} (h:ri (FW w) w v x):riL (FW w) w [v] [x]:=by simp only [riL]; exact ⟨x,[],rfl,h,rfl⟩
theorem riL_get : ∀ {vs:List V} {xs:List Value},riL (FW w) w vs xs → ∀ (i:Nat) v,vs[i]? = some v → ∃ x,xs[i]? = some x∧ri (FW w) w v x
 | [],xs,h,i,v,hi=>by simp at hi
 | u::vs,xs,h,i,v,hi=>by
  simp only [riL] at h
  obtain ⟨x,ys,rfl,h2,h3⟩:=h
  cases i with
  | zero=>simp at hi; subst hi; exact ⟨x,rfl,h2⟩
  | succ i=>simp at hi; simpa using riL_get h3 i v hi
theorem riL_length : ∀ {vs:List V} {xs:List Value},riL (FW w) w vs xs→xs.length=vs.length
 | [],xs,h=>by simp only [riL] at h; simp [h]
 | v::vs,xs,h=>by simp only [riL] at h; obtain ⟨x,ys,rfl,_,h3⟩:=h; simp [riL_length h3]
theorem opens_int {t:TypeId} {k:IntKind} (ht:P.underlying t=some (.int k)):Opens enc P w t (fun n:Int=>[.raw (.int k n)]) (fun n=>(Lit.int k n).wf=true):=by
 intro fuel cs x h
 obtain ⟨n,rfl,_,hw⟩:=DataW.trod_int ht h
 exact ⟨n,riL_one (by simp [ri]),hw,by simp [Value.oneCell']⟩
theorem opens_bool {t:TypeId} (ht:P.underlying t=some .bool):Opens enc P w t (fun b:Bool=>[.raw (.bool b)]) (fun _=>True):=by
 intro fuel cs x h
 obtain ⟨n,rfl,_⟩:=DataW.trod_bool ht h
 exact ⟨n,riL_one (by simp [ri]),trivial,by simp [Value.oneCell']⟩
theorem opens_slice {t e:TypeId} {s:Nat} {α:Type} {f:α→List V} {ok:α→Prop} (ht:P.underlying t=some (.slice e)) (hs:P.cellsOf e=s) (hpos:s≠0) (ho:Opens enc P w e f ok) :
  Opens enc P w t (fun l:List α=>[.lst s (l.map f)]) (fun l=>l.length≤maxLen ∧ ∀ a∈l,ok a):=by
 intro fuel cs x h
 rcases open_slice ht h with ⟨rfl,_⟩ | ⟨a,len,cap,m,n,D,Pl,rfl,_,hl,hm,hmm,_,hx⟩
 ·exact ⟨[],riL_one (by simp [ri]),by simp,by simp [Value.oneCell']⟩
 ·simp only [if_true] at hmm
  subst hmm
  rw [hs] at hx
  have each : ∀ i,i<len → ∃ q:α,(∃ cs', w.cells? 0 (a.add (i * s)) s=some cs' ∧ riL (FW w) w (f q) cs' ∧ ∀ u∈cs', u.oneCell' = true)∧ok q:=by
   intro i hi
   obtain ⟨cs', h1,h2⟩:=hx i (by omega)
   obtain ⟨q,h3,h4,h5⟩:=ho _ _ _ h2
   exact ⟨q,⟨cs', h1,h3,h5⟩,h4⟩
  obtain ⟨q,hq⟩ : ∃ q:Nat→Option α, ∀ i,i<len → ∃ y,q i=some y∧(∃ cs', w.cells? 0 (a.add (i * s)) s=some cs' ∧ riL (FW w) w (f y) cs' ∧ ∀ u∈cs', u.oneCell' = true)∧ok y:=by
   refine Classical.axiomOfChoice (r:=fun i (o:Option α)=>i<len → ∃ y,o=some y∧(∃ cs', w.cells? 0 (a.add (i * s)) s=some cs' ∧ riL (FW w) w (f y) cs' ∧ ∀ u∈cs', u.oneCell' = true)∧ok y) ?_
   intro i
   by_cases hi:i<len
   ·obtain ⟨y,hy⟩:=each i hi
    exact ⟨some y,fun _=>⟨y,rfl,hy⟩⟩
   ·exact ⟨none,fun h=>(hi h).elim⟩
  let l:List α:=(List.range len).filterMap q
  have hl' : l.length=len ∧ ∀ i,i<len→l[i]? = q i:=by
   have key : ∀ k,k≤len→((List.range k).filterMap q).length=k ∧ ∀ i,i<k→((List.range k).filterMap q)[i]? = q i:=by
    intro k
    induction k with
    | zero=>intro _; simp
    | succ k ih =>
     intro hk
     obtain ⟨h1,h2⟩:=ih (by omega)
     obtain ⟨y,hy,_⟩:=hq k (by omega)
     have:(List.range (k+1)).filterMap q=(List.range k).filterMap q++[y]:=by rw [List.range_succ,List.filterMap_append]; simp [hy]
     rw [this]
     refine ⟨by simp [h1],fun i hi=>?_⟩
     by_cases hik:i<k
     ·rw [List.getElem?_append_left (by omega)]; exact h2 i hik
     ·have:i=k:=by omega
      subst this
      rw [List.getElem?_append_right (by omega),h1,hy]; simp
   exact key len (Nat.le_refl _)
  refine ⟨l,riL_one ?_,⟨by omega,fun b hb=>?_⟩,by simp [Value.oneCell']⟩
  ·simp only [ri]
   refine .inr ⟨a,m,by simp [hl'.1]; exact hl,by simp [hl'.1],?_⟩
   by_cases h0:len=0
   ·left
    have:l=[]:=List.eq_nil_of_length_eq_zero (by omega)
    simp [this]
   ·right
    have cell : ∀ (i:Nat) (cs' : List Value),i<len→w.cells? 0 (a.add (i * s)) s=some cs' → ∀ j,j<s→w.cell? (a.add (i * s+j))=cs'[j]? ∧ cs'.length=s:=by
     intro i cs' hi hc j hj
     obtain ⟨_,hlen,hcc⟩:=World.cells?_some hc
     have:=hcc j hj
     rw [add_add] at this
     exact ⟨this,hlen⟩
    obtain ⟨y0,hy0,⟨cs0,c1,_,_⟩,_⟩:=hq 0 (by omega)
    have hc0:=(cell 0 cs0 (by omega) c1 0 (by omega))
    have hsome : ∃ u,w.cell? a=some u:=by
     have h1:=hc0.1
     rw [Nat.zero_mul,Nat.zero_add] at h1
     have:a.add 0=a:=by simp [Addr.add]
     rw [this] at h1
     rw [h1]
     exact ⟨cs0[0]'(by omega),List.getElem?_eq_getElem (by omega)⟩
    obtain ⟨u0,hu0⟩:=hsome
    have hspot:a.spot=none:=by
     unfold World.cell? at hu0
     split at hu0
     ·split at hu0
      ·cases hu0
      ·rename_i h; simpa using h
     ·cases hu0
    obtain ⟨ab,ao,asp⟩:=a
    simp only at hspot
    subst hspot
    refine ⟨rfl,World.block_lt_of_cell? w _ hu0,?_⟩
    rw [riRows_iff]
    intro i row hrow
    rw [List.getElem?_map,Option.map_eq_some_iff] at hrow
    obtain ⟨b,hb,rfl⟩:=hrow
    have hi:i<len:=by have:=(List.getElem?_eq_some_iff.1 hb).1; omega
    obtain ⟨y,hy,⟨cs', g1,g2,g3⟩,_⟩:=hq i hi
    rw [hl'.2 i hi,hy] at hb
    simp at hb
    subst hb
    have hlen' := riL_length g2
    obtain ⟨_,hclen,_⟩:=World.cells?_some g1
    refine ⟨by omega,fun j v hj=>?_⟩
    obtain ⟨z,z1,z2⟩:=riL_get g2 j v hj
    have hjs:j<s:=by have:=(List.getElem?_eq_some_iff.1 z1).1; omega
    refine ⟨z,?_,g3 z (List.mem_of_getElem? z1),z2⟩
    have:=(cell i cs' hi g1 j hjs).1
    rw [add_lit,← Nat.add_assoc] at this
    rw [this]; exact z1
  ·obtain ⟨i,hi⟩:=List.mem_iff_getElem?.1 hb
   have hil:i<len:=by have:=(List.getElem?_eq_some_iff.1 hi).1; omega
   obtain ⟨y,hy,_,hok⟩:=hq i hil
   rw [hl'.2 i hil,hy] at hi
   simp at hi
   exact hi ▸ hok
theorem opensF_nil {total:Nat}:OpensF enc P w total total [] (fun _:Unit=>[]) (fun _=>True):=by
 intro n cs hl _
 rw [List.drop_of_length_le (by omega)]
 exact ⟨(),by simp [riL],trivial,by simp⟩
theorem opensF_cons {total off k:Nat} {fd:Field} {fs:List Field} {α β:Type} {f:α→List V} {g:β→List V} {ok:α→Prop} {ok' : β→Prop} (ho:fd.offset=off) (hk:P.cellsOf fd.type=k)
  (h1:Opens enc P w fd.type f ok) (h2:OpensF enc P w total (off+k) fs g ok'):OpensF enc P w total off (fd::fs) (fun x:α×β=>f x.1++g x.2) (fun x=>ok x.1∧ok' x.2):=by
 intro n cs hl hf
 obtain ⟨x,hx⟩:=hf fd (by simp)
 rw [ho,hk] at hx
 obtain ⟨a,a1,a2,a3⟩:=h1 _ _ _ hx
 obtain ⟨b,b1,b2,b3⟩:=h2 n cs hl (fun fd' h' => hf fd' (by simp [h']))
 have hsplit:cs.drop off=(cs.drop off).take k++cs.drop (off+k):=by rw [← List.drop_drop,List.take_append_drop]
 refine ⟨(a,b),?_,⟨a2,b2⟩,?_⟩
 ·rw [hsplit]; exact riL_append a1 b1
 ·rw [hsplit]
  intro u hu
  rcases List.mem_append.1 hu with hu | hu
  ·exact a3 u hu
  ·exact b3 u hu
theorem opens_struct {t:TypeId} {fs:Array Field} {total:Nat} {α:Type} {f:α→List V} {ok:α→Prop} (ht:P.underlying t=some (.struct fs)) (hc:P.cellsOf t=total) (h:OpensF enc P w total 0 fs.toList f ok):Opens enc P w t f ok:=by
 intro fuel cs x hx
 obtain ⟨xs,n,_,_,hl,hxl,hf⟩:=DataW.trod_struct ht hx
 have:=h n cs (by omega) (fun fd hfd=>by
  obtain ⟨i,hi⟩:=List.mem_iff_getElem?.1 hfd
  have hi' : fs[i]? = some fd:=by simpa using hi
  have:=hf i fd hi'
  have hil:i<xs.length:=by rw [hxl]; exact lt_of_some hi'
  rw [List.getElem?_eq_getElem hil] at this
  exact ⟨_,this⟩)
 simpa using this
theorem arg_slice {t e:TypeId} {v:Value} {d:DataW H} {p:List MemPlace} {r:Reach} {b0:Nat} {α:Type} {f:α→V} {ok:α→Prop} (ht:P.underlying t=some (.slice e)) (hval:Value.okWide P w r b0 t v) (h:DataW.Trod enc P w 0 (fun _=>true) true t v d p)
  (ho:Opens enc P w t (fun a=>[f a]) ok) : ∃ a,ri (FW w) w (f a) v∧ok a:=by
 obtain ⟨a,len,cap,rfl⟩:=WideShapes.okWide_slice ht hval
 obtain ⟨fuel,hf⟩:=h
 obtain ⟨y,h1,h2,_⟩:=ho _ _ _ hf
 simp only [Value.cells,riL] at h1
 obtain ⟨x,xs,hx,h3,_⟩:=h1
 simp at hx
 exact ⟨y,by rw [hx.1]; exact h3,h2⟩
theorem arg_struct {t:TypeId} {fs:Array Field} {v:Value} {d:DataW H} {p:List MemPlace} {r:Reach} {b0:Nat} {α:Type} {f:α→List V} {ok:α→Prop} (ht:P.underlying t=some (.struct fs)) (hval:Value.okWide P w r b0 t v) (h:DataW.Trod enc P w 0 (fun _=>true) true t v d p)
  (ho:Opens enc P w t f ok) : ∃ a,ri (FW w) w (.agg (f a)) v∧ok a:=by
 obtain ⟨cs,rfl,_⟩:=WideShapes.okWide_struct ht hval
 obtain ⟨fuel,hf⟩:=h
 obtain ⟨y,h1,h2,_⟩:=ho _ _ _ hf
 exact ⟨y,by simp only [ri]; exact ⟨cs,rfl,h1⟩,h2⟩
end
end Go.Proofs.YtkkgicjioajimaaDoor.Clean
namespace Go.Proofs.YtkkgicjioajimaaDoor.Clean
set_option linter.unusedVariables false
set_option linter.unusedSimpArgs false
mutual
def litC {H:Type} (P:Program):Nat→TypeId→DataW H→Option (List V)
 | 0,_,_=>none
 | f+1,t,d=>match P.underlying t with
  | some (.int k)=>match d with
   | .lit (.int k' n)=>some [.raw (.int k n)]
   | _=>none
  | some (.struct fs)=>match d with
   | .agg xs=>litF P f (P.cellsOf t) fs.toList xs 0
   | _=>none
  | some (.array n e)=>match d with
   | .agg xs=>if P.cellsOf t=n * P.cellsOf e then litA P f e xs else none
   | _=>none
  | _=>none
def litF {H:Type} (P:Program):Nat→Nat→List Field→List (DataW H)→Nat→Option (List V)
 | 0,_,_,_,_=>none
 | _+1,n,[],[],o=>if n=o then some [] else none
 | f+1,n,fd::fs,x::xs,o=>if fd.offset=o then (litC P f fd.type x).bind fun a=>(litF P f n fs xs (o+P.cellsOf fd.type)).bind fun b=>if a.length=P.cellsOf fd.type then some (a++b) else none else none
 | _,_,_,_,_=>none
def litA {H:Type} (P:Program):Nat→TypeId→List (DataW H)→Option (List V)
 | 0,_,_=>none
 | _+1,_,[]=>some []
 | f+1,e,x::xs=>(litC P f e x).bind fun a=>(litA P f e xs).bind fun b=>if a.length=P.cellsOf e then some (a++b) else none
end
section
variable {H:Type} {enc:TypeId×Value→H} {P:Program} {w:World} {b0:Nat} {sp:Nat→Bool} {held:Bool}
def CellsOK (w:World) (vs:List V) (cs:List Value):Prop:=cs.length=vs.length ∧ ∀ (i:Nat) v x,vs[i]? = some v→cs[i]? = some x→x.oneCell' = true∧ri (FW w) w v x
theorem CellsOK.append {vs us:List V} {cs ds:List Value} (h:CellsOK w vs cs) (k:CellsOK w us ds):CellsOK w (vs++us) (cs++ds):=by
 refine ⟨by simp [h.1,k.1],fun i v x hv hx=>?_⟩
 by_cases hi:i<vs.length
 ·rw [List.getElem?_append_left hi] at hv
  rw [List.getElem?_append_left (by rw [h.1]; exact hi)] at hx
  exact h.2 i v x hv hx
 ·rw [List.getElem?_append_right (by omega)] at hv
  rw [List.getElem?_append_right (by rw [h.1]; omega),h.1] at hx
  exact k.2 _ v x hv hx
theorem take_split (cs:List Value) (o n:Nat):cs.drop o=(cs.drop o).take n++cs.drop (o+n):=by rw [← List.drop_drop,List.take_append_drop]
theorem lit_ok (f:Nat) :
  (∀ (t:TypeId) (d:DataW H) (vs:List V),litC P f t d=some vs → ∀ fuel cs x,DataW.trod enc P w b0 sp held fuel t cs=some x→x.1=d→CellsOK w vs cs) ∧
  (∀ (fs:List Field) (xs:List (DataW H)) (o:Nat) (vs:List V) (cs:List Value),litF P f cs.length fs xs o=some vs → ∀ m (ys:List (DataW H×List MemPlace)),ys.map (·.1)=xs→(∀ (i:Nat) fd,fs[i]? = some fd→DataW.trod enc P w b0 sp held m fd.type ((cs.drop fd.offset).take (P.cellsOf fd.type))=ys[i]?)→CellsOK w vs (cs.drop o)) ∧
  (∀ (e:TypeId) (xs:List (DataW H)) (o:Nat) (vs:List V) (cs:List Value),litA P f e xs=some vs→cs.length=o+xs.length * P.cellsOf e → ∀ m (ys:List (DataW H×List MemPlace)),ys.map (·.1)=xs→(∀ (i:Nat),i<xs.length→DataW.trod enc P w b0 sp held m e ((cs.drop (o+i * P.cellsOf e)).take (P.cellsOf e))=ys[i]?)→CellsOK w vs (cs.drop o)):=by
 induction f with
 | zero=>exact ⟨fun t d vs h=>by simp [litC] at h,fun fs xs o vs cs h=>by simp [litF] at h,fun e xs o vs cs h=>by simp [litA] at h⟩
 | succ f ih =>
  obtain ⟨ihC,ihF,ihA⟩:=ih
  refine ⟨fun t d vs h fuel cs x hx hd=>?_,fun fs xs o vs cs h m ys hys hf=>?_,fun e xs o vs cs h hl m ys hys hf=>?_⟩
  ·simp only [litC] at h
   split at h
   ·rename_i k hk
    split at h
    ·rename_i k' n
     cases h
     obtain ⟨m,rfl,h2,_⟩:=DataW.trod_int hk hx
     have hxd:x.1 = .lit (.int k m):=by rw [h2]
     rw [hd] at hxd
     simp only [DataW.lit.injEq,Lit.int.injEq] at hxd
     obtain ⟨_,rfl⟩:=hxd
     refine ⟨rfl,fun i v x hv hx=>?_⟩
     cases i with
     | zero=>simp at hv hx; subst hv; subst hx; exact ⟨rfl,by simp [ri]⟩
     | succ i=>simp at hv
    ·cases h
   ·rename_i fs hs
    split at h
    ·rename_i xs
     obtain ⟨ys,n,_,hy,hl,hyl,hf⟩:=DataW.trod_struct hs hx
     have hxs:ys.map (·.1)=xs:=by
      have:=hd
      rw [hy] at this
      simpa using this
     rw [← hl] at h
     have:=ihF fs.toList xs 0 vs cs h n ys hxs (fun i fd hi=>hf i fd (by simpa using hi))
     simpa using this
    ·cases h
   ·rename_i n e ha
    split at h
    ·rename_i xs
     split at h
     ·rename_i hn
      obtain ⟨ys,m,_,hy,hl,hyl,hf⟩:=DataW.trod_array ha hx
      have hxs:ys.map (·.1)=xs:=by
       have:=hd
       rw [hy] at this
       simpa using this
      have hxl:xs.length=n:=by rw [← hxs]; simpa using hyl
      have:=ihA e xs 0 vs cs h (by rw [hl,hn,hxl]; omega) m ys hxs (fun i hi=>by rw [Nat.zero_add]; exact hf i (by omega))
      simpa using this
     ·cases h
    ·cases h
   ·cases h
  ·cases fs with
   | nil =>
    cases xs with
    | nil =>
     simp only [litF] at h
     split at h
     ·rename_i hn
      cases h
      subst hn
      refine ⟨by simp,fun i v x hv hx=>by simp at hv⟩
     ·cases h
    | cons x xs=>simp [litF] at h
   | cons fd fs =>
    cases xs with
    | nil=>simp [litF] at h
    | cons x xs =>
     simp only [litF] at h
     split at h
     ·rename_i ho
      cases ha:litC P f fd.type x with
      | none=>rw [ha] at h; cases h
      | some a =>
       cases hb:litF P f cs.length fs xs (o+P.cellsOf fd.type) with
       | none=>rw [ha,hb] at h; cases h
       | some b =>
        rw [ha,hb] at h
        simp only [Option.bind_some] at h
        split at h
        ·rename_i hal
         cases h
         cases ys with
         | nil=>simp at hys
         | cons y ys =>
          simp only [List.map_cons,List.cons.injEq] at hys
          have h0:=hf 0 fd rfl
          rw [ho] at h0
          rw [take_split cs o (P.cellsOf fd.type)]
          exact (ihC _ _ _ ha _ _ _ h0 hys.1).append (ihF fs xs _ b cs hb m ys hys.2 (fun i fd' hi=>hf (i+1) fd' (by simpa using hi)))
        ·cases h
     ·cases h
  ·cases xs with
   | nil =>
    simp only [litA,Option.some.injEq] at h
    subst h
    refine ⟨by simp at hl ⊢; omega,fun i v x hv hx=>by simp at hv⟩
   | cons x xs =>
    simp only [litA] at h
    cases ha:litC P f e x with
    | none=>rw [ha] at h; cases h
    | some a =>
     cases hb:litA P f e xs with
     | none=>rw [ha,hb] at h; cases h
     | some b =>
      rw [ha,hb] at h
      simp only [Option.bind_some] at h
      split at h
      ·rename_i hal
       cases h
       cases ys with
       | nil=>simp at hys
       | cons y ys =>
        simp only [List.map_cons,List.cons.injEq] at hys
        have h0:=hf 0 (by simp)
        rw [Nat.zero_mul,Nat.add_zero] at h0
        rw [take_split cs o (P.cellsOf e)]
        refine (ihC _ _ _ ha _ _ _ h0 hys.1).append (ihA e xs _ b cs hb (by rw [hl,List.length_cons,Nat.add_mul]; omega) m ys hys.2 (fun i hi=>?_))
        have:=hf (i+1) (by simpa using hi)
        rw [Nat.add_mul,Nat.one_mul] at this
        rw [show o+P.cellsOf e+i * P.cellsOf e=o+(i * P.cellsOf e+P.cellsOf e) by omega]
        simpa using this
      ·cases h
end
structure LaidOne (P:Program) (g:Nat) (n:String) (d:DataW Unit) (vs:List V):Prop where
 name:P.globalNamed n=some g
 cells:(((P.globals[g]?).map (·.type)).bind fun t=>litC P 64 t d)=some vs
theorem riCells_of {F:Nat→Prop} {w:World} {b:Nat} : ∀ (vs:List V) (o:Nat),(∀ i v,vs[i]? = some v → ∃ x,w.cell? ⟨b,o+i,none⟩=some x∧x.oneCell' = true∧ri F w v x)→riCells F w b vs o
 | [],o,_=>by simp only [riCells]
 | v::vs,o,h=>by
  simp only [riCells]
  refine ⟨by simpa using h 0 v rfl,riCells_of vs (o+1) fun i v hi=>?_⟩
  have:=h (i+1) v (by simpa using hi)
  rwa [show o+(i+1)=o+1+i by omega] at this
theorem laid_adr {P:Program} {w:World} {laid:List (String×DataW Unit)} (hp:(laid.all fun x=>x.2.handleName?.isNone)=true) (h:laidMetH P laid w) {g:Nat} {n:String} {d:DataW Unit} {vs:List V} (hm:(n,d)∈laid) (ho:LaidOne P g n d vs) (hne:vs≠[]) :
  ri (FW w) w (.adr vs 0) (.pointer (some ⟨g,0,none⟩)):=by
 rw [MakeChecks.laidMetH_plain _ _ _ hp] at h
 obtain ⟨ps,hl,_⟩:=h
 have key : ∀ (l:List (String×DataW Unit)) (ps:List MemPlace),DataW.LaidVars P w l ps→(n,d)∈l → ∃ t cs fuel p,(P.globals[g]?).map (·.type)=some t∧w.var? P n=some cs∧DataW.trod (fun _=>()) P w 0 (fun _=>true) false fuel t cs.toList=some (d,p):=by
  intro l
  induction l with
  | nil=>intro ps _ hm; cases hm
  | cons a r ih =>
   obtain ⟨n', d'⟩:=a
   intro ps hl hm
   obtain ⟨g', t,cs,fuel,p,q,h1,h2,h3,h4,h5,_⟩:=hl
   rcases List.mem_cons.1 hm with he | he
   ·cases he
    obtain rfl:=Option.some.inj (ho.name.symm.trans h1)
    exact ⟨t,cs,fuel,p,h2,h3,h4⟩
   ·exact ih q h5 he
 obtain ⟨t,cs,fuel,p,h1,h2,h3⟩:=key laid ps hl hm
 have k2:=ho.cells
 rw [h1,Option.bind_some] at k2
 have hc:=(lit_ok 64).1 _ _ _ k2 _ _ _ h3 rfl
 have hv:=World.var?_cell ho.name h2
 simp only [ri]
 have cell : ∀ i v,vs[i]? = some v → ∃ x,w.cell? ⟨g,0+i,none⟩=some x∧x.oneCell' = true∧ri (FW w) w v x:=by
  intro i v hi
  have hlt:i<vs.length:=(List.getElem?_eq_some_iff.1 hi).1
  have hlt' : i<cs.toList.length:=by rw [hc.1]; exact hlt
  obtain ⟨q1,q2⟩:=hc.2 i v _ hi (List.getElem?_eq_getElem hlt')
  refine ⟨cs.toList[i],?_,q1,q2⟩
  rw [Nat.zero_add,hv i]
  simp at hlt' ⊢
 refine ⟨g,0,by simp,?_,riCells_of vs 0 cell⟩
 obtain ⟨v,r,rfl⟩:=List.exists_cons_of_ne_nil hne
 obtain ⟨x,hx,_⟩:=cell 0 v rfl
 show g<w.heap.size
 simp only [World.cell?] at hx
 cases hh:w.heap[0+g]? with
 | none=>rw [Nat.zero_add] at hh; rw [hh] at hx; simp at hx
 | some o=>rw [Nat.zero_add] at hh; exact lt_of_some hh
end Go.Proofs.YtkkgicjioajimaaDoor.Clean
