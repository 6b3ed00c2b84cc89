/- A part of the proof. -/
import Derived.Test.YtkkgicjioajimaaDoorProg
import Derived.Test.YtkkgicjioajimaaDoorXA7G10
import Derived.Test.YtkkgicjioajimaaDoorXA7G13
namespace Go.Proofs.YtkkgicjioajimaaDoor
open Go Go.Proofs.YtkkgicjioajimaaDoor.Clean
set_option linter.unusedVariables false
set_option linter.unusedSimpArgs false
set_option maxRecDepth 10000
def bdL (w d:Int) (c:List Nat):List C3:=celL w d c c.length
def bdG (w d h:Int) (u:Nat) (c:List Nat) (l:List Pt):V := .agg [iv w,iv d,iv h,.lst u (nb c),.lst 4 (ptl l),.lst 3 (fullR (bdL w d c)),.fmp (numE (bdL w d c)),.fmp (pieE (allPc (bdL w d c) (colN c) l (bdL w d c).length)),.lst 1 (begR (bdL w d c).length (cellPc (bdL w d c) (colN c) l)),wlV (wallU (bdL w d c) (bdL w d c).length)]
theorem eq55 (w d h:Int) (u:Nat) (c:List Nat) (l:List Pt) (R:V→Prop):(K0G Tryd.prog glX 60 [V.agg [iv w,iv d,iv h,V.lst u (nb c)],V.lst 4 (ptl l)] fun v=>onIntK IntKind.i64 v fun n=>ifB (n != (0:Int)) (R (V.tup [V.agg [iv (0:Int),iv (0:Int),iv (0:Int),nilS,nilS,nilS,V.raw (Value.map none),V.raw (Value.map none),nilS,nilS],iv n])) (La 0 [(4:Tmp),(7:Tmp),(26:Tmp),(27:Tmp),(28:Tmp),(3999999:Tmp)] (WY Tryd.prog cfB 2993 (Env.mk (Bs.mk 0 []) 0 none 89 55 0) (cdAt [1,1,1,0,1,0,0] (bodyOf Tryd.f55))) (Qblk 0 (Qthen (WY Tryd.prog cfB 2996 (Env.mk (Bs.mk 0 []) 0 none 89 55 0) (cdAt [1,1,1,1] (bodyOf Tryd.f55)) (QendX Tryd.prog Tryd.f55 fun v h=>R (frzW h v))) (QendX Tryd.prog Tryd.f55 fun v h=>R (frzW h v)))) (St.mk (mkT [(4,V.ptr (Id.p 0) 0 0),(7,V.ptr (Id.p 1) 0 0),(26,V.lst u (nb c)),(27,iv (↑(nb c).length:Int)),(28,iv (0:Int))]) (Hp.mk [(0,O.rows 10 true [[iv (0:Int),iv (0:Int),iv (0:Int),nilS,nilS,nilS,V.raw (Value.map none),V.raw (Value.map none),nilS,nilS]]),(1,O.rows 10 false [[iv w,iv d,iv h,V.lst u (nb c),V.lst 4 (ptl l),nilS,V.mp (Id.p 2),V.mp (Id.p 3),nilS,nilS]]),(2,O.mp []),(3,O.mp [])] 4 []))))=WY0 Tryd.prog cfB 3000 55 Tryd.f55 [.agg [iv w,iv d,iv h,.lst u (nb c)],.lst 4 (ptl l)] R:=by kernel_rfl
theorem numE_app (L:List C3) (x:C3):numE (L++[x])=numE L++[(V.agg (cv x),iv (L.length:Int))]:=by
 unfold numE
 rw [List.zipIdx_append,List.map_append]
 simp
theorem fullR_app (L:List C3) (x:C3):fullR (L++[x])=fullR L++[cv x]:=by simp [fullR]
theorem good_rep (n:Nat):(List.replicate n [nilS]).all (goodR [] 0 false)=true:=by
 rw [List.all_eq_true]
 intro row hr
 rw [List.eq_of_mem_replicate hr]; rfl
theorem tr_rep (n:Nat):trR [] 0 0 (List.replicate n [nilS])=List.replicate n [nilS]:=by
 unfold trR
 rw [List.map_replicate]; rfl
theorem beg_new (N:Nat) (ms:List (Option (List (List V)))):BegOK N (fun n=>[]) (List.replicate N [nilS]) ms:=by
 refine ⟨by simp,fun n hn=>⟨[nilS],by simp [hn],.inl ⟨rfl,rfl⟩⟩,fun g g' j n n' h _=>?_⟩
 have:=List.eq_of_mem_replicate (List.mem_of_getElem? h)
 cases this
theorem celL_succ (w d:Int) (c:List Nat) (k:Nat):celL w d c (k+1)=if c.getD k 0=0 then celL w d c k else celL w d c k++[cel w d k]:=by
 unfold celL
 rw [fi_succ]
 split <;> simp
theorem board55 {w d h:Int} {u:Nat} {c:List Nat} {l:List Pt} {R:V→Prop} (hu:u=1∨c=[]) (h0:ShOK w d h c→PtOK l→R (.tup [bdG w d h u c l,iv 0])) (h1 : ¬ ShOK w d h c→R (.tup [.agg zr10,iv 70])) (h2:ShOK w d h c → ¬ PtOK l→R (.tup [.agg zr10,iv 71])) :
  K0G Tryd.prog glX 55 [.agg [iv w,iv d,iv h,.lst u (nb c)],.lst 4 (ptl l)] R:=by
 refine K0_by hmX hcB 3000 Tryd.func55 (eq55 w d h u c l R) ?_
 refine both49 hu (fun hs hpt=>onIntK_iv (ifB_f rfl ?_)) (fun q=>onIntK_iv (ifB_t rfl (h1 q))) (fun q q' => onIntK_iv (ifB_t rfl (h2 q q')))
 have h0:=h0 hs hpt
 have hlen:=celL_len hs
 have hw1:=hs.1; have hd1:=hs.2.1; have hh1:=hs.2.2.1
 have sz:=sizes hw1 hd1 hh1
 have hcl:c.length≤256:=by have:=hs.2.2.2.1; omega
 have hcp:1≤c.length:=by have:=hs.2.2.2.1; omega
 have hu1:u=1:=hu.resolve_right (by rintro rfl; simp at hcp)
 have hq : ∀ k:Nat,k<256→IntKind.i64.wrap ((k:Int).tdiv w)=(k:Int).tdiv w∧IntKind.i64.wrap (((k:Int).tdiv w).tdiv d)=((k:Int).tdiv w).tdiv d:=fun k hk=>by
  have a1:0≤(k:Int).tdiv w∧(k:Int).tdiv w≤k:=by
   rw [Int.tdiv_eq_ediv_of_nonneg (by omega)]
   exact ⟨Int.ediv_nonneg (by omega) (by omega),Int.ediv_le_self _ (by omega)⟩
  have a2:0≤((k:Int).tdiv w).tdiv d∧((k:Int).tdiv w).tdiv d≤(k:Int).tdiv w:=by
   rw [Int.tdiv_eq_ediv_of_nonneg (b:=d) (by omega)]
   exact ⟨Int.ediv_nonneg (by omega) (by omega),Int.ediv_le_self _ (by omega)⟩
  exact ⟨wrapI (by omega) (by omega),wrapI (by omega) (by omega)⟩
 refine La.of (σ:=Bool×Nat) (fun x=>match x.1 with | false=>sh55n w d h u c l x.2 | true=>sh55s w d h u c l (celL w d c x.2) x.2) (fun x=>x.2≤c.length∧(x.1=false↔celL w d c x.2=[])) (fun x=>c.length - x.2) (false,0) (by kernel_rfl) ⟨Nat.zero_le _,by simp [celL,fi]⟩ ?_
 rintro ⟨b,k⟩ ⟨k1,k2⟩ J hJ
 simp only at k1 k2
 cases b with
 | false =>
  have k2:=k2.1 rfl
  show _
  refine see (p:=ifB (decide ((↑k:Int)<(↑(nb c).length:Int))) (need (u=1) (onSome (nb c)[k]? fun row=>onSome row[0]? fun v=>onIntK IntKind.u8 v fun n=>ifB (n != (0:Int)) (need (w≠(0:Int)) (need (w≠(0:Int)) (need (d≠(0:Int)) (need (w≠(0:Int)) (need (d≠(0:Int)) (J (St.mk (mkT [(4,V.ptr (Id.p 0) 0 0),(7,V.ptr (Id.p 1) 0 0),(26,V.lst u (nb c)),(27,iv (↑(nb c).length:Int)),(28,iv (IntKind.i64.wrap ((↑k:Int)+(1:Int))))]) (Hp.mk [(0,O.rows 10 true [[iv (0:Int),iv (0:Int),iv (0:Int),nilS,nilS,nilS,V.raw (Value.map none),V.raw (Value.map none),nilS,nilS]]),(1,O.rows 10 false [[iv w,iv d,iv h,V.lst u (nb c),V.lst 4 (ptl l),V.sl (Id.p 2) 0 1,V.mp (Id.p 3),V.mp (Id.p 4),nilS,nilS]]),(2,O.rows 3 true [[iv ((↑k:Int).tmod w),iv ((IntKind.i64.wrap ((↑k:Int).tdiv w)).tmod d),iv (IntKind.i64.wrap ((IntKind.i64.wrap ((↑k:Int).tdiv w)).tdiv d))]]),(3,O.mp [(V.agg [iv ((↑k:Int).tmod w),iv ((IntKind.i64.wrap ((↑k:Int).tdiv w)).tmod d),iv (IntKind.i64.wrap ((IntKind.i64.wrap ((↑k:Int).tdiv w)).tdiv d))],iv (0:Int))]),(4,O.mp [])] 5 [])))))))) (J (St.mk (mkT [(4,V.ptr (Id.p 0) 0 0),(7,V.ptr (Id.p 1) 0 0),(26,V.lst u (nb c)),(27,iv (↑(nb c).length:Int)),(28,iv (IntKind.i64.wrap ((↑k:Int)+(1:Int))))]) (Hp.mk [(0,O.rows 10 true [[iv (0:Int),iv (0:Int),iv (0:Int),nilS,nilS,nilS,V.raw (Value.map none),V.raw (Value.map none),nilS,nilS]]),(1,O.rows 10 false [[iv w,iv d,iv h,V.lst u (nb c),V.lst 4 (ptl l),nilS,V.mp (Id.p 2),V.mp (Id.p 3),nilS,nilS]]),(2,O.mp []),(3,O.mp [])] 4 []))))) (La 0 [(4:Tmp),(7:Tmp),(79:Tmp),(80:Tmp),(4999999:Tmp),(4500005:Tmp),(5000007:Tmp),(1000007:Tmp),(6000000:Tmp)] (WY Tryd.prog cfB 2991 (Env.mk (Bs.mk 0 []) 0 none 89 55 2) (cdAt [1,1,1,1,1,0,1,0,0] (bodyOf Tryd.f55))) (Qblk 2 (Qthen (WY Tryd.prog cfB 2994 (Env.mk (Bs.mk 0 []) 0 none 89 55 0) (cdAt [1,1,1,1,1,1] (bodyOf Tryd.f55)) (QendX Tryd.prog Tryd.f55 fun v h=>R (frzW h v))) (QendX Tryd.prog Tryd.f55 fun v h=>R (frzW h v)))) (St.mk (mkT [(4,V.ptr (Id.p 0) 0 0),(7,V.ptr (Id.p 1) 0 0),(79,iv (0:Int)),(80,iv (0:Int))]) (Hp.mk [(0,O.rows 10 true [[iv (0:Int),iv (0:Int),iv (0:Int),nilS,nilS,nilS,V.raw (Value.map none),V.raw (Value.map none),nilS,nilS]]),(1,O.rows 10 false [[iv w,iv d,iv h,V.lst u (nb c),V.lst 4 (ptl l),nilS,V.mp (Id.p 2),V.mp (Id.p 3),V.sl (Id.p 4) 0 0,nilS]]),(2,O.mp []),(3,O.mp []),(4,O.rows 1 false [])] 5 [(0,Fam.mk 7 ([]++[]))])))) (by kernel_rfl) ?_
  refine ifB_mk (fun hb=>?_) (fun hb=>?_) <;> rw [nb_length] at hb
  ·have hlt:k<c.length:=by have:=of_decide_eq_true hb; omega
   have e1:c[k]? = some (c.getD k 0):=by simp [List.getD,hlt]
   have hsu:=celL_succ w d c k
   refine need_mk ⟨hu1,nbel e1 (ifB_mk (fun hb=>?_) (fun hb=>?_))⟩
   ·have hne:c.getD k 0≠0:=by rintro e; rw [e] at hb; simp at hb
    rw [if_neg hne,k2] at hsu
    obtain ⟨a1,a2⟩:=hq k (by omega)
    refine need_mk ⟨by omega,need_mk ⟨by omega,need_mk ⟨by omega,need_mk ⟨by omega,need_mk ⟨by omega,?_⟩⟩⟩⟩⟩
    rw [a1,a2,wrapI (n:=(k:Int)+1) (by omega) (by omega)]
    have:=hJ (true,k+1) ⟨by simp only; omega,by simp only; rw [hsu]; simp⟩ (by simp only; omega)
    simp only at this
    rw [hsu] at this
    exact this
   ·have he:c.getD k 0=0:=by
     have:((c.getD k 0:Nat):Int)=0:=by simpa using hb
     omega
    rw [if_pos he,k2] at hsu
    rw [wrapI (n:=(k:Int)+1) (by omega) (by omega)]
    exact hJ (false,k+1) ⟨by simp only; omega,by simp only; rw [hsu]; simp⟩ (by simp only; omega)
  ·exfalso
   have hk:k=c.length:=by have:=of_decide_eq_false hb; omega
   rw [hk] at k2
   rw [k2] at hlen
   simp at hlen; omega
 | true =>
  show _
  obtain ⟨L,hL⟩ : ∃ L,L=celL w d c k:=⟨_,rfl⟩
  rw [← hL] at k2 ⊢
  refine see (p:=ifB (decide ((↑k:Int)<(↑(nb c).length:Int))) (need (u=1) (onSome (nb c)[k]? fun row=>onSome row[0]? fun v=>onIntK IntKind.u8 v fun n=>ifB (n != (0:Int)) (need (w≠(0:Int)) (need (w≠(0:Int)) (need (d≠(0:Int)) (need (w≠(0:Int)) (need (d≠(0:Int)) (onFind (findK Tryd.prog 98 (V.agg [iv ((↑k:Int).tmod w),iv ((IntKind.i64.wrap ((↑k:Int).tdiv w)).tmod d),iv (IntKind.i64.wrap ((IntKind.i64.wrap ((↑k:Int).tdiv w)).tdiv d))]) (numE L) 0) (fun i kv vv=>guardB (sameC kv (V.agg [iv ((↑k:Int).tmod w),iv ((IntKind.i64.wrap ((↑k:Int).tdiv w)).tmod d),iv (IntKind.i64.wrap ((IntKind.i64.wrap ((↑k:Int).tdiv w)).tdiv d))])) (need ((L.length+1) * 24≤140737488355328) (guardB (((numE L).set i (V.agg [iv ((↑k:Int).tmod w),iv ((IntKind.i64.wrap ((↑k:Int).tdiv w)).tmod d),iv (IntKind.i64.wrap ((IntKind.i64.wrap ((↑k:Int).tdiv w)).tdiv d))],iv (↑L.length:Int))).all closedE) (J (St.mk (mkT [(4,V.ptr (Id.p 0) 0 0),(7,V.ptr (Id.p 1) 0 0),(26,V.lst u (nb c)),(27,iv (↑(nb c).length:Int)),(28,iv (IntKind.i64.wrap ((↑k:Int)+(1:Int))))]) (Hp.mk [(0,O.rows 10 true [[iv (0:Int),iv (0:Int),iv (0:Int),nilS,nilS,nilS,V.raw (Value.map none),V.raw (Value.map none),nilS,nilS]]),(1,O.rows 10 false [[iv w,iv d,iv h,V.lst u (nb c),V.lst 4 (ptl l),V.sl (Id.p 2) 0 (L.length+1),V.mp (Id.p 3),V.mp (Id.p 4),nilS,nilS]]),(2,O.rows 3 true (List.take L.length (fullR L)++[[iv ((↑k:Int).tmod w),iv ((IntKind.i64.wrap ((↑k:Int).tdiv w)).tmod d),iv (IntKind.i64.wrap ((IntKind.i64.wrap ((↑k:Int).tdiv w)).tdiv d))]])),(3,O.mp ((numE L).set i (V.agg [iv ((↑k:Int).tmod w),iv ((IntKind.i64.wrap ((↑k:Int).tdiv w)).tmod d),iv (IntKind.i64.wrap ((IntKind.i64.wrap ((↑k:Int).tdiv w)).tdiv d))],iv (↑L.length:Int)))),(4,O.mp [])] 5 [])))))) (need ((L.length+1) * 24≤140737488355328) (guardB ((numE L++[(V.agg [iv ((↑k:Int).tmod w),iv ((IntKind.i64.wrap ((↑k:Int).tdiv w)).tmod d),iv (IntKind.i64.wrap ((IntKind.i64.wrap ((↑k:Int).tdiv w)).tdiv d))],iv (↑L.length:Int))]).all closedE) (J (St.mk (mkT [(4,V.ptr (Id.p 0) 0 0),(7,V.ptr (Id.p 1) 0 0),(26,V.lst u (nb c)),(27,iv (↑(nb c).length:Int)),(28,iv (IntKind.i64.wrap ((↑k:Int)+(1:Int))))]) (Hp.mk [(0,O.rows 10 true [[iv (0:Int),iv (0:Int),iv (0:Int),nilS,nilS,nilS,V.raw (Value.map none),V.raw (Value.map none),nilS,nilS]]),(1,O.rows 10 false [[iv w,iv d,iv h,V.lst u (nb c),V.lst 4 (ptl l),V.sl (Id.p 2) 0 (L.length+1),V.mp (Id.p 3),V.mp (Id.p 4),nilS,nilS]]),(2,O.rows 3 true (List.take L.length (fullR L)++[[iv ((↑k:Int).tmod w),iv ((IntKind.i64.wrap ((↑k:Int).tdiv w)).tmod d),iv (IntKind.i64.wrap ((IntKind.i64.wrap ((↑k:Int).tdiv w)).tdiv d))]])),(3,O.mp (numE L++[(V.agg [iv ((↑k:Int).tmod w),iv ((IntKind.i64.wrap ((↑k:Int).tdiv w)).tmod d),iv (IntKind.i64.wrap ((IntKind.i64.wrap ((↑k:Int).tdiv w)).tdiv d))],iv (↑L.length:Int))])),(4,O.mp [])] 5 []))))))))))) (guardB ((numE L).all closedE) (J (St.mk (mkT [(4,V.ptr (Id.p 0) 0 0),(7,V.ptr (Id.p 1) 0 0),(26,V.lst u (nb c)),(27,iv (↑(nb c).length:Int)),(28,iv (IntKind.i64.wrap ((↑k:Int)+(1:Int))))]) (Hp.mk [(0,O.rows 10 true [[iv (0:Int),iv (0:Int),iv (0:Int),nilS,nilS,nilS,V.raw (Value.map none),V.raw (Value.map none),nilS,nilS]]),(1,O.rows 10 false [[iv w,iv d,iv h,V.lst u (nb c),V.lst 4 (ptl l),V.sl (Id.p 2) 0 L.length,V.mp (Id.p 3),V.mp (Id.p 4),nilS,nilS]]),(2,O.rows 3 true (fullR L)),(3,O.mp (numE L)),(4,O.mp [])] 5 [])))))) (need (L.length≤L.length) (need (24 * L.length≤140737488355328) (need (L.length≤9223372036854775807) (guardB ((numE L).all (goodE [] 0 false)) (guardB ((List.replicate L.length [nilS]).all (goodR [] 0 false)) (La 0 [(4:Tmp),(7:Tmp),(79:Tmp),(80:Tmp),(4999999:Tmp),(4500005:Tmp),(5000007:Tmp),(1000007:Tmp),(6000000:Tmp)] (WY Tryd.prog cfB 2991 (Env.mk (Bs.mk 0 []) 0 none 89 55 2) (cdAt [1,1,1,1,1,0,1,0,0] (bodyOf Tryd.f55))) (Qblk 2 (Qthen (WY Tryd.prog cfB 2994 (Env.mk (Bs.mk 0 []) 0 none 89 55 0) (cdAt [1,1,1,1,1,1] (bodyOf Tryd.f55)) (QendX Tryd.prog Tryd.f55 fun v h=>R (frzW h v))) (QendX Tryd.prog Tryd.f55 fun v h=>R (frzW h v)))) (St.mk (mkT [(4,V.ptr (Id.p 0) 0 0),(7,V.ptr (Id.p 1) 0 0),(79,iv (↑L.length:Int)),(80,iv (0:Int))]) (Hp.mk [(0,O.rows 10 true [[iv (0:Int),iv (0:Int),iv (0:Int),nilS,nilS,nilS,V.raw (Value.map none),V.raw (Value.map none),nilS,nilS]]),(1,O.rows 10 false [[iv w,iv d,iv h,V.lst u (nb c),V.lst 4 (ptl l),V.sl (Id.p 2) 0 L.length,V.mp (Id.p 3),V.mp (Id.p 4),V.sl (Id.p 5) 0 L.length,nilS]]),(2,O.rows 3 true (fullR L)),(3,O.mp (trM [] 0 0 (numE L))),(4,O.mp []),(5,O.rows 1 false (trR [] 0 0 (List.replicate L.length [nilS])))] 6 [(0,Fam.mk 7 ([]++[]))]))))))))) (by kernel_rfl) ?_
  refine ifB_mk (fun hb=>?_) (fun hb=>?_) <;> rw [nb_length] at hb
  ·have hlt:k<c.length:=by have:=of_decide_eq_true hb; omega
   have e1:c[k]? = some (c.getD k 0):=by simp [List.getD,hlt]
   have hsu:=celL_succ w d c k
   rw [← hL] at hsu
   have hLl:L.length≤256:=by
    rw [hL]; unfold celL
    rw [List.length_map]
    have:=List.length_filter_le (fun i=>c.getD i 0 != 0) (List.range k)
    rw [List.length_range] at this
    unfold fi; omega
   refine need_mk ⟨hu1,nbel e1 (ifB_mk (fun hb=>?_) (fun hb=>?_))⟩
   ·have hne:c.getD k 0≠0:=by rintro e; rw [e] at hb; simp at hb
    rw [if_neg hne] at hsu
    obtain ⟨a1,a2⟩:=hq k (by omega)
    refine need_mk ⟨by omega,need_mk ⟨by omega,need_mk ⟨by omega,need_mk ⟨by omega,need_mk ⟨by omega,?_⟩⟩⟩⟩⟩
    rw [a1,a2,wrapI (n:=(k:Int)+1) (by omega) (by omega)]
    refine onNum (t:=cel w d k) (fun m hm=>?_) (fun hm=>?_)
    ·exfalso
     have:=List.mem_of_getElem? (pos_some hm)
     rw [hL] at this
     obtain ⟨i,hi,he⟩:=List.mem_map.1 this
     have:=cel_inj hw1.1 hd1.1 he
     have:=(mem_fi.1 hi).1
     omega
    ·refine need_mk ⟨by omega,guardB_mk ?_ ?_⟩
     ·have:=cl_num (L++[cel w d k])
      rw [numE_app] at this
      exact this
     ·have:=hJ (true,k+1) ⟨by simp only; omega,by simp only; rw [hsu]; simp⟩ (by simp only; omega)
      simp only at this
      rw [hsu] at this
      unfold sh55s at this
      rw [numE_app,fullR_app,List.length_append] at this
      rw [show List.take L.length (fullR L)=fullR L by rw [List.take_of_length_le (by simp [fullR])]]
      exact this
   ·have he:c.getD k 0=0:=by
     have:((c.getD k 0:Nat):Int)=0:=by simpa using hb
     omega
    rw [if_pos he] at hsu
    rw [wrapI (n:=(k:Int)+1) (by omega) (by omega)]
    refine guardB_mk (cl_num _) ?_
    have:=hJ (true,k+1) ⟨by simp only; omega,by simp only; rw [hsu]; exact k2⟩ (by simp only; omega)
    simp only at this
    rw [hsu] at this
    exact this
  ·have hk:k=c.length:=by have:=of_decide_eq_false hb; omega
   subst hk
   rw [← hL] at hlen
   have hLb:L=bdL w d c:=hL
   rw [bdG,← hLb] at h0
   refine need_mk ⟨Nat.le_refl _,need_mk ⟨by omega,need_mk ⟨by omega,guardB_mk (good_num _ _ _ _) (guardB_mk (good_rep _) ?_)⟩⟩⟩
   refine La.of (σ:=(List WL×List (V×V)×List (List V)×List (Option (List (List V))))×Nat) (fun x=>shB55 w d h u c l L x.1.2.1 x.1.2.2.1 x.1.2.2.2 x.1.1 x.2) (fun x=>x.2≤L.length∧x.1.1=wallU L x.2∧x.1.2.1=pieE (allPc L (colN c) l x.2)∧BegOK L.length (fun n=>if n<x.2 then cellPc L (colN c) l n else []) x.1.2.2.1 x.1.2.2.2) (fun x=>L.length - x.2) (([],[],List.replicate L.length [nilS],[]),0)
    (by rw [trM_num,tr_rep]; kernel_rfl) ⟨Nat.zero_le _,rfl,rfl,(beg_new _ _).congr fun n hn=>by simp⟩ ?_
   rintro ⟨⟨ws,P,r,ms⟩,k⟩ ⟨g1,g2,g3,g4⟩ J2 hJ2
   simp only at g1 g2 g3 g4
   have hnext : ∀ P' r' ms', P' = pieE (allPc L (colN c) l (k+1))→BegOK L.length (fun n=>if n<k+1 then cellPc L (colN c) l n else []) r' ms' → k<L.length → ∀ ws,ws=wallU L (k+1)→J2 (shB55 w d h u c l L P' r' ms' ws (k+1)):=fun P' r' ms' hp hB hk ws hw =>
    hJ2 ((ws,P', r', ms'),k+1) ⟨hk,hw,hp,hB⟩ (by simp only; omega)
   have hbeg:begR L.length (fun n=>if n<L.length then cellPc L (colN c) l n else [])=begR L.length (cellPc L (colN c) l):=by
    unfold begR
    refine List.map_congr_left fun n hn=>?_
    show [begC (if n<L.length then cellPc L (colN c) l n else [])]=_
    rw [if_pos (List.mem_range.1 hn)]
   cases hws:ws with
   | nil =>
    subst hws
    show _
    refine see (p := ifB (decide ((↑k : Int) < (↑L.length : Int))) (guardB ((numE L).all (goodE [] 0 true)) (guardB (P.all (goodE [] 0 true)) (guardB (r.all (goodR [] 0 true)) (La 6 [(0 : Tmp), (1 : Tmp), (15 : Tmp), (16 : Tmp), (4999999 : Tmp), (4500005 : Tmp), (5000000 : Tmp), (1000007 : Tmp), (6000000 : Tmp)] (WY Tryd.prog cfB 2981 (Env.mk (Bs.mk 0 (spared [] [V.ptr (Id.p 1) 0 0, iv (↑k : Int)] ++ [])) 6 none 70 84 0) (cdAt [1, 0, 0] (bodyOf Tryd.f84))) (Qblk 0 (QendX Tryd.prog Tryd.f84 fun v h' => (fun v h => fzNew (callY Tryd.prog cfB (WY Tryd.prog cfB 2984) (Env.mk (Env.mk (Bs.mk 0 []) 0 none 89 55 2).base (Env.mk (Bs.mk 0 []) 0 none 89 55 2).nb (Env.mk (Bs.mk 0 []) 0 none 89 55 2).ro (Env.mk (Bs.mk 0 []) 0 none 89 55 2).N (Env.mk (Bs.mk 0 []) 0 none 89 55 2).fid 3).base (Env.mk (Env.mk (Bs.mk 0 []) 0 none 89 55 2).base (Env.mk (Bs.mk 0 []) 0 none 89 55 2).nb (Env.mk (Bs.mk 0 []) 0 none 89 55 2).ro (Env.mk (Bs.mk 0 []) 0 none 89 55 2).N (Env.mk (Bs.mk 0 []) 0 none 89 55 2).fid 3).fid) 6 (Oper.mk (some 84) (Op.call (Call.mk (Callee.value (Operand.func 84)) #[Operand.tmp 7, Operand.tmp 83] #[83, 3])) 0 "board.go:46" #[Edge.mk 0 Ground.data] none) v h fun v h => putT (Env.mk (Env.mk (Bs.mk 0 []) 0 none 89 55 2).base (Env.mk (Bs.mk 0 []) 0 none 89 55 2).nb (Env.mk (Bs.mk 0 []) 0 none 89 55 2).ro (Env.mk (Bs.mk 0 []) 0 none 89 55 2).N (Env.mk (Bs.mk 0 []) 0 none 89 55 2).fid 3).N (mkT [(4, V.ptr (Id.p 0) 0 0), (7, V.ptr (Id.p 1) 0 0), (11, iv (↑k : Int)), (79, iv (↑L.length : Int)), (80, iv (↑k : Int)), (81, bv (decide ((↑k : Int) < (↑L.length : Int)))), (82, iv (↑k : Int)), (83, iv (↑k : Int))]) (Oper.mk (some 84) (Op.call (Call.mk (Callee.value (Operand.func 84)) #[Operand.tmp 7, Operand.tmp 83] #[83, 3])) 0 "board.go:46" #[Edge.mk 0 Ground.data] none).dst v fun tm => (fun st => fzOld (callY Tryd.prog cfB (WY Tryd.prog cfB 2984) (Env.mk (Env.mk (Bs.mk 0 []) 0 none 89 55 2).base (Env.mk (Bs.mk 0 []) 0 none 89 55 2).nb (Env.mk (Bs.mk 0 []) 0 none 89 55 2).ro (Env.mk (Bs.mk 0 []) 0 none 89 55 2).N (Env.mk (Bs.mk 0 []) 0 none 89 55 2).fid 3).base (Env.mk (Env.mk (Bs.mk 0 []) 0 none 89 55 2).base (Env.mk (Bs.mk 0 []) 0 none 89 55 2).nb (Env.mk (Bs.mk 0 []) 0 none 89 55 2).ro (Env.mk (Bs.mk 0 []) 0 none 89 55 2).N (Env.mk (Bs.mk 0 []) 0 none 89 55 2).fid 3).fid) (askY cfB (Env.mk (Env.mk (Bs.mk 0 []) 0 none 89 55 2).base (Env.mk (Bs.mk 0 []) 0 none 89 55 2).nb (Env.mk (Bs.mk 0 []) 0 none 89 55 2).ro (Env.mk (Bs.mk 0 []) 0 none 89 55 2).N (Env.mk (Bs.mk 0 []) 0 none 89 55 2).fid 3).base) (Oper.mk (some 84) (Op.call (Call.mk (Callee.value (Operand.func 84)) #[Operand.tmp 7, Operand.tmp 83] #[83, 3])) 0 "board.go:46" #[Edge.mk 0 Ground.data] none) st fun st => wOps Tryd.prog (callY Tryd.prog cfB (WY Tryd.prog cfB 2984) (Env.mk (Env.mk (Bs.mk 0 []) 0 none 89 55 2).base (Env.mk (Bs.mk 0 []) 0 none 89 55 2).nb (Env.mk (Bs.mk 0 []) 0 none 89 55 2).ro (Env.mk (Bs.mk 0 []) 0 none 89 55 2).N (Env.mk (Bs.mk 0 []) 0 none 89 55 2).fid 3).base (Env.mk (Env.mk (Bs.mk 0 []) 0 none 89 55 2).base (Env.mk (Bs.mk 0 []) 0 none 89 55 2).nb (Env.mk (Bs.mk 0 []) 0 none 89 55 2).ro (Env.mk (Bs.mk 0 []) 0 none 89 55 2).N (Env.mk (Bs.mk 0 []) 0 none 89 55 2).fid 3).fid) (askY cfB (Env.mk (Env.mk (Bs.mk 0 []) 0 none 89 55 2).base (Env.mk (Bs.mk 0 []) 0 none 89 55 2).nb (Env.mk (Bs.mk 0 []) 0 none 89 55 2).ro (Env.mk (Bs.mk 0 []) 0 none 89 55 2).N (Env.mk (Bs.mk 0 []) 0 none 89 55 2).fid 3).base) (Env.mk (Env.mk (Bs.mk 0 []) 0 none 89 55 2).base (Env.mk (Bs.mk 0 []) 0 none 89 55 2).nb (Env.mk (Bs.mk 0 []) 0 none 89 55 2).ro (Env.mk (Bs.mk 0 []) 0 none 89 55 2).N (Env.mk (Bs.mk 0 []) 0 none 89 55 2).fid 3).N #[Oper.mk (some 83) (Op.move (Operand.tmp 11)) 3 "board.go:46" #[] none, Oper.mk (some 84) (Op.call (Call.mk (Callee.value (Operand.func 84)) #[Operand.tmp 7, Operand.tmp 83] #[83, 3])) 0 "board.go:46" #[Edge.mk 0 Ground.data] none].toList [] st (Qthen (WY Tryd.prog cfB 2985 (Env.mk (Bs.mk 0 []) 0 none 89 55 3) (cdAt [1, 1, 1, 1, 1, 0, 1, 0, 0, 1, 1, 0, 0, 1, 1] (bodyOf Tryd.f55)) (Qblk 3 (Qthen (WY Tryd.prog cfB 2988 (Env.mk (Bs.mk 0 []) 0 none 89 55 2) (cdAt [1, 1, 1, 1, 1, 0, 1, 0, 0, 1, 1, 1] (bodyOf Tryd.f55)) (Qla 0 [(4 : Tmp), (7 : Tmp), (79 : Tmp), (80 : Tmp), (4999999 : Tmp), (4500005 : Tmp), (5000007 : Tmp), (1000007 : Tmp), (6000000 : Tmp)] J2 (Qblk 2 (Qthen (WY Tryd.prog cfB 2994 (Env.mk (Bs.mk 0 []) 0 none 89 55 0) (cdAt [1, 1, 1, 1, 1, 1] (bodyOf Tryd.f55)) (QendX Tryd.prog Tryd.f55 fun v h => R (frzW h v))) (QendX Tryd.prog Tryd.f55 fun v h => R (frzW h v)))))) (Qla 0 [(4 : Tmp), (7 : Tmp), (79 : Tmp), (80 : Tmp), (4999999 : Tmp), (4500005 : Tmp), (5000007 : Tmp), (1000007 : Tmp), (6000000 : Tmp)] J2 (Qblk 2 (Qthen (WY Tryd.prog cfB 2994 (Env.mk (Bs.mk 0 []) 0 none 89 55 0) (cdAt [1, 1, 1, 1, 1, 1] (bodyOf Tryd.f55)) (QendX Tryd.prog Tryd.f55 fun v h => R (frzW h v))) (QendX Tryd.prog Tryd.f55 fun v h => R (frzW h v)))))))) (Qblk 3 (Qthen (WY Tryd.prog cfB 2988 (Env.mk (Bs.mk 0 []) 0 none 89 55 2) (cdAt [1, 1, 1, 1, 1, 0, 1, 0, 0, 1, 1, 1] (bodyOf Tryd.f55)) (Qla 0 [(4 : Tmp), (7 : Tmp), (79 : Tmp), (80 : Tmp), (4999999 : Tmp), (4500005 : Tmp), (5000007 : Tmp), (1000007 : Tmp), (6000000 : Tmp)] J2 (Qblk 2 (Qthen (WY Tryd.prog cfB 2994 (Env.mk (Bs.mk 0 []) 0 none 89 55 0) (cdAt [1, 1, 1, 1, 1, 1] (bodyOf Tryd.f55)) (QendX Tryd.prog Tryd.f55 fun v h => R (frzW h v))) (QendX Tryd.prog Tryd.f55 fun v h => R (frzW h v)))))) (Qla 0 [(4 : Tmp), (7 : Tmp), (79 : Tmp), (80 : Tmp), (4999999 : Tmp), (4500005 : Tmp), (5000007 : Tmp), (1000007 : Tmp), (6000000 : Tmp)] J2 (Qblk 2 (Qthen (WY Tryd.prog cfB 2994 (Env.mk (Bs.mk 0 []) 0 none 89 55 0) (cdAt [1, 1, 1, 1, 1, 1] (bodyOf Tryd.f55)) (QendX Tryd.prog Tryd.f55 fun v h => R (frzW h v))) (QendX Tryd.prog Tryd.f55 fun v h => R (frzW h v))))))) Ex.norm)) (St.mk tm h)) v (bif cfB.clean 84 then gcH 6 v h' else h'))) (St.mk (mkT [(0, V.ptr (Id.p 1) 0 0), (1, iv (↑k : Int)), (15, iv (↑(ptl l).length : Int)), (16, iv (0 : Int))]) (Hp.mk [(0, O.rows 10 true [[iv (0 : Int), iv (0 : Int), iv (0 : Int), nilS, nilS, nilS, V.raw (Value.map none), V.raw (Value.map none), nilS, nilS]]), (1, O.rows 10 false [[iv w, iv d, iv h, V.lst u (nb c), V.lst 4 (ptl l), V.sl (Id.p 2) 0 L.length, V.mp (Id.p 3), V.mp (Id.p 4), V.sl (Id.p 5) 0 L.length, nilS]]), (2, O.rows 3 true (fullR L)), (3, O.mp (trM [] 0 ms.length (numE L))), (4, O.mp (trM [] 0 ms.length P)), (5, O.rows 1 false (trR [] 0 ms.length r))] 6 [(0, Fam.mk 7 (ms ++ []))])))))) (R (V.tup [V.agg [iv w, iv d, iv h, V.lst u (nb c), V.lst 4 (ptl l), V.lst 3 (sub (fullR L) 0 L.length), fmpV (numE L), fmpV P, V.lst 1 (sub (List.map (trL (frzDT (fun x => true) (Hp.mk [(0, O.rows 10 false [[iv w, iv d, iv h, V.lst u (nb c), V.lst 4 (ptl l), V.sl (Id.p 2) 0 L.length, V.mp (Id.p 3), V.mp (Id.p 4), V.sl (Id.p 5) 0 L.length, nilS]]), (1, O.rows 10 false [[iv w, iv d, iv h, V.lst u (nb c), V.lst 4 (ptl l), V.sl (Id.p 2) 0 L.length, V.mp (Id.p 3), V.mp (Id.p 4), V.sl (Id.p 5) 0 L.length, nilS]]), (2, O.rows 3 true (fullR L)), (3, O.mp (numE L)), (4, O.mp P), (5, O.rows 1 false r)] 6 [(0, Fam.mk 7 ms)]) 5)) r) 0 L.length), nilS], iv (0 : Int)]))) (by kernel_rfl) ?_
    refine ifB_mk (fun hb=>?_) (fun hb=>?_)
    ·have hk:k<L.length:=by have:=of_decide_eq_true hb; omega
     obtain ⟨t,ht⟩:=getI hk
     refine guardB_mk (good_num _ _ _ _) (guardB_mk (g3 ▸ good_pie _ _ _ _) (guardB_mk (g4.good _) ?_))
     rw [trM_num,show trM [] 0 ms.length P=P by rw [g3]; exact trM_pie _ _ _ _,g4.tr,show ms++[]=ms from List.append_nil ms]
     exact cut_n R J2 hs hu hL hpt ht (fun P' r' ms' hp hB=>wal_n R J2 hs hL ht g2.symm P' r' ms' hp hB (hnext P' r' ms' hp hB hk)) P r ms g3 g4
    ·have hk:k=L.length:=by have:=of_decide_eq_false hb; omega
     subst hk
     rw [sub_full,fmpV_num,g3,fmpV_pie,beg_end g4 (fun j es he=>by
      show (match memb ms j with | some es=>Tr.frz 7 es | none=>Tr.drop)=_
      rw [he]),hbeg]
     rw [← g2] at h0
     exact h0
   | cons v q =>
    have hne:ws≠[]:=by rw [hws]; simp
    rw [← hws]
    show _
    rw [shB55_s hne]
    refine see (p := ifB (decide ((↑k : Int) < (↑L.length : Int))) (guardB ((numE L).all (goodE [] 0 true)) (guardB (P.all (goodE [] 0 true)) (guardB (r.all (goodR [] 0 true)) (La 7 [(0 : Tmp), (1 : Tmp), (15 : Tmp), (16 : Tmp), (4999999 : Tmp), (4500005 : Tmp), (5000000 : Tmp), (1000007 : Tmp), (6000000 : Tmp)] (WY Tryd.prog cfB 2981 (Env.mk (Bs.mk 0 (spared [] [V.ptr (Id.p 1) 0 0, iv (↑k : Int)] ++ [])) 7 none 70 84 0) (cdAt [1, 0, 0] (bodyOf Tryd.f84))) (Qblk 0 (QendX Tryd.prog Tryd.f84 fun v h' => (fun v h => fzNew (callY Tryd.prog cfB (WY Tryd.prog cfB 2984) (Env.mk (Env.mk (Bs.mk 0 []) 0 none 89 55 2).base (Env.mk (Bs.mk 0 []) 0 none 89 55 2).nb (Env.mk (Bs.mk 0 []) 0 none 89 55 2).ro (Env.mk (Bs.mk 0 []) 0 none 89 55 2).N (Env.mk (Bs.mk 0 []) 0 none 89 55 2).fid 3).base (Env.mk (Env.mk (Bs.mk 0 []) 0 none 89 55 2).base (Env.mk (Bs.mk 0 []) 0 none 89 55 2).nb (Env.mk (Bs.mk 0 []) 0 none 89 55 2).ro (Env.mk (Bs.mk 0 []) 0 none 89 55 2).N (Env.mk (Bs.mk 0 []) 0 none 89 55 2).fid 3).fid) 7 (Oper.mk (some 84) (Op.call (Call.mk (Callee.value (Operand.func 84)) #[Operand.tmp 7, Operand.tmp 83] #[83, 3])) 0 "board.go:46" #[Edge.mk 0 Ground.data] none) v h fun v h => putT (Env.mk (Env.mk (Bs.mk 0 []) 0 none 89 55 2).base (Env.mk (Bs.mk 0 []) 0 none 89 55 2).nb (Env.mk (Bs.mk 0 []) 0 none 89 55 2).ro (Env.mk (Bs.mk 0 []) 0 none 89 55 2).N (Env.mk (Bs.mk 0 []) 0 none 89 55 2).fid 3).N (mkT [(4, V.ptr (Id.p 0) 0 0), (7, V.ptr (Id.p 1) 0 0), (11, iv (↑k : Int)), (79, iv (↑L.length : Int)), (80, iv (↑k : Int)), (81, bv (decide ((↑k : Int) < (↑L.length : Int)))), (82, iv (↑k : Int)), (83, iv (↑k : Int))]) (Oper.mk (some 84) (Op.call (Call.mk (Callee.value (Operand.func 84)) #[Operand.tmp 7, Operand.tmp 83] #[83, 3])) 0 "board.go:46" #[Edge.mk 0 Ground.data] none).dst v fun tm => (fun st => fzOld (callY Tryd.prog cfB (WY Tryd.prog cfB 2984) (Env.mk (Env.mk (Bs.mk 0 []) 0 none 89 55 2).base (Env.mk (Bs.mk 0 []) 0 none 89 55 2).nb (Env.mk (Bs.mk 0 []) 0 none 89 55 2).ro (Env.mk (Bs.mk 0 []) 0 none 89 55 2).N (Env.mk (Bs.mk 0 []) 0 none 89 55 2).fid 3).base (Env.mk (Env.mk (Bs.mk 0 []) 0 none 89 55 2).base (Env.mk (Bs.mk 0 []) 0 none 89 55 2).nb (Env.mk (Bs.mk 0 []) 0 none 89 55 2).ro (Env.mk (Bs.mk 0 []) 0 none 89 55 2).N (Env.mk (Bs.mk 0 []) 0 none 89 55 2).fid 3).fid) (askY cfB (Env.mk (Env.mk (Bs.mk 0 []) 0 none 89 55 2).base (Env.mk (Bs.mk 0 []) 0 none 89 55 2).nb (Env.mk (Bs.mk 0 []) 0 none 89 55 2).ro (Env.mk (Bs.mk 0 []) 0 none 89 55 2).N (Env.mk (Bs.mk 0 []) 0 none 89 55 2).fid 3).base) (Oper.mk (some 84) (Op.call (Call.mk (Callee.value (Operand.func 84)) #[Operand.tmp 7, Operand.tmp 83] #[83, 3])) 0 "board.go:46" #[Edge.mk 0 Ground.data] none) st fun st => wOps Tryd.prog (callY Tryd.prog cfB (WY Tryd.prog cfB 2984) (Env.mk (Env.mk (Bs.mk 0 []) 0 none 89 55 2).base (Env.mk (Bs.mk 0 []) 0 none 89 55 2).nb (Env.mk (Bs.mk 0 []) 0 none 89 55 2).ro (Env.mk (Bs.mk 0 []) 0 none 89 55 2).N (Env.mk (Bs.mk 0 []) 0 none 89 55 2).fid 3).base (Env.mk (Env.mk (Bs.mk 0 []) 0 none 89 55 2).base (Env.mk (Bs.mk 0 []) 0 none 89 55 2).nb (Env.mk (Bs.mk 0 []) 0 none 89 55 2).ro (Env.mk (Bs.mk 0 []) 0 none 89 55 2).N (Env.mk (Bs.mk 0 []) 0 none 89 55 2).fid 3).fid) (askY cfB (Env.mk (Env.mk (Bs.mk 0 []) 0 none 89 55 2).base (Env.mk (Bs.mk 0 []) 0 none 89 55 2).nb (Env.mk (Bs.mk 0 []) 0 none 89 55 2).ro (Env.mk (Bs.mk 0 []) 0 none 89 55 2).N (Env.mk (Bs.mk 0 []) 0 none 89 55 2).fid 3).base) (Env.mk (Env.mk (Bs.mk 0 []) 0 none 89 55 2).base (Env.mk (Bs.mk 0 []) 0 none 89 55 2).nb (Env.mk (Bs.mk 0 []) 0 none 89 55 2).ro (Env.mk (Bs.mk 0 []) 0 none 89 55 2).N (Env.mk (Bs.mk 0 []) 0 none 89 55 2).fid 3).N #[Oper.mk (some 83) (Op.move (Operand.tmp 11)) 3 "board.go:46" #[] none, Oper.mk (some 84) (Op.call (Call.mk (Callee.value (Operand.func 84)) #[Operand.tmp 7, Operand.tmp 83] #[83, 3])) 0 "board.go:46" #[Edge.mk 0 Ground.data] none].toList [] st (Qthen (WY Tryd.prog cfB 2985 (Env.mk (Bs.mk 0 []) 0 none 89 55 3) (cdAt [1, 1, 1, 1, 1, 0, 1, 0, 0, 1, 1, 0, 0, 1, 1] (bodyOf Tryd.f55)) (Qblk 3 (Qthen (WY Tryd.prog cfB 2988 (Env.mk (Bs.mk 0 []) 0 none 89 55 2) (cdAt [1, 1, 1, 1, 1, 0, 1, 0, 0, 1, 1, 1] (bodyOf Tryd.f55)) (Qla 0 [(4 : Tmp), (7 : Tmp), (79 : Tmp), (80 : Tmp), (4999999 : Tmp), (4500005 : Tmp), (5000007 : Tmp), (1000007 : Tmp), (6000000 : Tmp)] J2 (Qblk 2 (Qthen (WY Tryd.prog cfB 2994 (Env.mk (Bs.mk 0 []) 0 none 89 55 0) (cdAt [1, 1, 1, 1, 1, 1] (bodyOf Tryd.f55)) (QendX Tryd.prog Tryd.f55 fun v h => R (frzW h v))) (QendX Tryd.prog Tryd.f55 fun v h => R (frzW h v)))))) (Qla 0 [(4 : Tmp), (7 : Tmp), (79 : Tmp), (80 : Tmp), (4999999 : Tmp), (4500005 : Tmp), (5000007 : Tmp), (1000007 : Tmp), (6000000 : Tmp)] J2 (Qblk 2 (Qthen (WY Tryd.prog cfB 2994 (Env.mk (Bs.mk 0 []) 0 none 89 55 0) (cdAt [1, 1, 1, 1, 1, 1] (bodyOf Tryd.f55)) (QendX Tryd.prog Tryd.f55 fun v h => R (frzW h v))) (QendX Tryd.prog Tryd.f55 fun v h => R (frzW h v)))))))) (Qblk 3 (Qthen (WY Tryd.prog cfB 2988 (Env.mk (Bs.mk 0 []) 0 none 89 55 2) (cdAt [1, 1, 1, 1, 1, 0, 1, 0, 0, 1, 1, 1] (bodyOf Tryd.f55)) (Qla 0 [(4 : Tmp), (7 : Tmp), (79 : Tmp), (80 : Tmp), (4999999 : Tmp), (4500005 : Tmp), (5000007 : Tmp), (1000007 : Tmp), (6000000 : Tmp)] J2 (Qblk 2 (Qthen (WY Tryd.prog cfB 2994 (Env.mk (Bs.mk 0 []) 0 none 89 55 0) (cdAt [1, 1, 1, 1, 1, 1] (bodyOf Tryd.f55)) (QendX Tryd.prog Tryd.f55 fun v h => R (frzW h v))) (QendX Tryd.prog Tryd.f55 fun v h => R (frzW h v)))))) (Qla 0 [(4 : Tmp), (7 : Tmp), (79 : Tmp), (80 : Tmp), (4999999 : Tmp), (4500005 : Tmp), (5000007 : Tmp), (1000007 : Tmp), (6000000 : Tmp)] J2 (Qblk 2 (Qthen (WY Tryd.prog cfB 2994 (Env.mk (Bs.mk 0 []) 0 none 89 55 0) (cdAt [1, 1, 1, 1, 1, 1] (bodyOf Tryd.f55)) (QendX Tryd.prog Tryd.f55 fun v h => R (frzW h v))) (QendX Tryd.prog Tryd.f55 fun v h => R (frzW h v))))))) Ex.norm)) (St.mk tm h)) v (bif cfB.clean 84 then gcH 7 v h' else h'))) (St.mk (mkT [(0, V.ptr (Id.p 1) 0 0), (1, iv (↑k : Int)), (15, iv (↑(ptl l).length : Int)), (16, iv (0 : Int))]) (Hp.mk [(0, O.rows 10 true [[iv (0 : Int), iv (0 : Int), iv (0 : Int), nilS, nilS, nilS, V.raw (Value.map none), V.raw (Value.map none), nilS, nilS]]), (1, O.rows 10 false [[iv w, iv d, iv h, V.lst u (nb c), V.lst 4 (ptl l), V.sl (Id.p 2) 0 L.length, V.mp (Id.p 3), V.mp (Id.p 4), V.sl (Id.p 5) 0 L.length, V.sl (Id.p 6) 0 ws.length]]), (2, O.rows 3 true (fullR L)), (3, O.mp (trM [] 0 ms.length (numE L))), (4, O.mp (trM [] 0 ms.length P)), (5, O.rows 1 false (trR [] 0 ms.length r)), (6, O.rows 4 true (wlR ws))] 7 [(0, Fam.mk 7 (ms ++ []))])))))) (R (V.tup [V.agg [iv w, iv d, iv h, V.lst u (nb c), V.lst 4 (ptl l), V.lst 3 (sub (fullR L) 0 L.length), fmpV (numE L), fmpV P, V.lst 1 (sub (List.map (trL (frzDT (fun x => true) (Hp.mk [(0, O.rows 10 false [[iv w, iv d, iv h, V.lst u (nb c), V.lst 4 (ptl l), V.sl (Id.p 2) 0 L.length, V.mp (Id.p 3), V.mp (Id.p 4), V.sl (Id.p 5) 0 L.length, V.sl (Id.p 6) 0 ws.length]]), (1, O.rows 10 false [[iv w, iv d, iv h, V.lst u (nb c), V.lst 4 (ptl l), V.sl (Id.p 2) 0 L.length, V.mp (Id.p 3), V.mp (Id.p 4), V.sl (Id.p 5) 0 L.length, V.sl (Id.p 6) 0 ws.length]]), (2, O.rows 3 true (fullR L)), (3, O.mp (numE L)), (4, O.mp P), (5, O.rows 1 false r), (6, O.rows 4 true (wlR ws))] 7 [(0, Fam.mk 7 ms)]) 5)) r) 0 L.length), V.lst 4 (sub (wlR ws) 0 ws.length)], iv (0 : Int)]))) (by kernel_rfl) ?_
    refine ifB_mk (fun hb=>?_) (fun hb=>?_)
    ·have hk:k<L.length:=by have:=of_decide_eq_true hb; omega
     obtain ⟨t,ht⟩:=getI hk
     refine guardB_mk (good_num _ _ _ _) (guardB_mk (g3 ▸ good_pie _ _ _ _) (guardB_mk (g4.good _) ?_))
     rw [trM_num,show trM [] 0 ms.length P=P by rw [g3]; exact trM_pie _ _ _ _,g4.tr,show ms++[]=ms from List.append_nil ms]
     exact cut_s R J2 hs hu hL hpt ht ws (fun P' r' ms' hp hB=>wal_s R J2 hs hL ht ws g2.symm hne P' r' ms' hp hB (hnext P' r' ms' hp hB hk)) P r ms g3 g4
    ·have hk:k=L.length:=by have:=of_decide_eq_false hb; omega
     subst hk
     rw [sub_full,fmpV_num,g3,fmpV_pie,beg_end g4 (fun j es he=>by
      show (match memb ms j with | some es=>Tr.frz 7 es | none=>Tr.drop)=_
      rw [he]),hbeg]
     rw [← g2,hws] at h0
     rw [show sub (wlR ws) 0 ws.length=wlR ws by unfold sub; rw [List.drop_zero,List.take_of_length_le (by simp [wlR])],hws]
     exact h0
set_option maxRecDepth 100000
abbrev Ld:=Int×C3×Bool
def ldR (x:Ld):List V:=[iv x.1,iv x.2.1.1,iv x.2.1.2.1,iv x.2.1.2.2,bv x.2.2]
def ldl (c:List Ld):List (List V):=c.map ldR
def bdT (w d h:Int) (u:Nat) (c:List Nat) (l:List Pt) (L:List C3) (nE pE:List (V×V)) (bg:List (List V)) (wr:List (List V)):V := .agg [iv w,iv d,iv h,V.lst u (nb c),V.lst 4 (ptl l),V.lst 3 (fullR L),V.fmp nE,V.fmp pE,V.lst 1 bg,V.lst 4 wr]
def kpT:FuncId→Nat→Option (List Tmp):=slotsOf [(92,0,[3,7,8,9]),(72,0,[2,6,7,8,17,18,19,6000000]),(44,0,[2,5,6,1]),(44,2,[2,5,6])]
def moT:FuncId→Nat:=fun f=>bif inN [92] f then 1 else 0
noncomputable def cfW:Cfg:=cfgD Tryd.prog glX moT dyB (inN [74]) kpT
noncomputable def sh92n (l:List Pt) (k:Nat):St:=⟨mkT [(3,nilS),(7,V.lst 4 (ptl l)),(8,iv ((ptl l).length:Int)),(9,iv (k:Int))],⟨[],0,[]⟩⟩
noncomputable def sh92s (l:List Pt) (q:List Int) (k:Nat):St:=⟨mkT [(3,V.sl (Id.p 0) 0 q.length),(7,V.lst 4 (ptl l)),(8,iv ((ptl l).length:Int)),(9,iv (k:Int))],⟨[(0,O.rows 1 true (il q))],1,[]⟩⟩
noncomputable def sh72n (w d h:Int) (u:Nat) (c:List Nat) (l:List Pt) (L:List C3) (nE pE:List (V×V)) (bg wr:List (List V)) (sc:Nat) (cs:List Ld) (lf:List Int) (op i:Nat):St:=⟨mkT [(2,V.ptr (Id.p 0) 0 0),(6,nilS),(7,V.sl (Id.p 1) 0 lf.length),(8,u16v op),(17,V.lst sc (ldl cs)),(18,iv ((ldl cs).length:Int)),(19,iv (i:Int))],⟨[(0,O.rows 10 false [[iv w,iv d,iv h,V.lst u (nb c),V.lst 4 (ptl l),V.lst 3 (fullR L),V.fmp nE,V.fmp pE,V.lst 1 bg,V.lst 4 wr]]),(1,O.rows 1 true (il lf))],2,[]⟩⟩
noncomputable def sh72s (w d h:Int) (u:Nat) (c:List Nat) (l:List Pt) (L:List C3) (nE pE:List (V×V)) (bg wr:List (List V)) (sc:Nat) (cs:List Ld) (lf:List Int) (op i:Nat) (pr:List (List V)):St:=⟨mkT [(2,V.ptr (Id.p 0) 0 0),(6,V.sl (Id.p 1) 0 pr.length),(7,V.sl (Id.p 2) 0 lf.length),(8,u16v op),(17,V.lst sc (ldl cs)),(18,iv ((ldl cs).length:Int)),(19,iv (i:Int))],⟨[(0,O.rows 10 false [[iv w,iv d,iv h,V.lst u (nb c),V.lst 4 (ptl l),V.lst 3 (fullR L),V.fmp nE,V.fmp pE,V.lst 1 bg,V.lst 4 wr]]),(1,O.rows 7 true pr),(2,O.rows 1 true (il lf))],3,[]⟩⟩
set_option maxRecDepth 10000
theorem hcW:cfW.ok Tryd.prog:=cfgD_ok
theorem il_app (q:List Int) (x:Int):il q++[[iv x]]=il (q++[x]):=by simp [il]
theorem il_len (q:List Int):(il q).length=q.length:=by simp [il]
theorem take_il (q:List Int):List.take q.length (il q)=il q:=by rw [List.take_of_length_le (by simp [il])]
theorem sub_il (q:List Int):sub (il q) 0 q.length=il q:=by unfold sub; rw [List.drop_zero,take_il]
theorem supply92 {w d h:Int} {u:Nat} {c:List Nat} {l:List Pt} {L:List C3} {nE pE:List (V×V)} {bg wr:List (List V)} {R:V→Prop} (hl:1≤l.length∧l.length≤8) (hR:R (.lst 1 (il (l.map fun x=>x.2.2.1)))) :
  KB Tryd.prog glX 92 [bdT w d h u c l L nE pE bg wr] ⟨[],0,[]⟩ R:=by
 refine KB_of_WYB hmX hcW 3000 Tryd.func92 rfl (see (p:=La 0 [(3:Tmp),(7:Tmp),(8:Tmp),(9:Tmp)] (WY Tryd.prog cfW 2994 (Env.mk (Bs.mk 0 []) 0 none 20 92 0) (cdAt [1,1,0,1,0,0] (bodyOf Tryd.f92))) (Qblk 0 (Qthen (WY Tryd.prog cfW 2997 (Env.mk (Bs.mk 0 []) 0 none 20 92 0) (cdAt [1,1,1] (bodyOf Tryd.f92)) (QendX Tryd.prog Tryd.f92 fun v h' => dataT 0 (gcH 0 v h') v R)) (QendX Tryd.prog Tryd.f92 fun v h' => dataT 0 (gcH 0 v h') v R))) (St.mk (mkT [(3,nilS),(7,V.lst 4 (ptl l)),(8,iv (↑(ptl l).length:Int)),(9,iv (0:Int))]) (Hp.mk [] 0 []))) (by kernel_rfl) ?_)
 refine La.of (σ:=Bool×List Int×Nat) (fun x=>match x.1 with | false=>sh92n l x.2.2 | true=>sh92s l x.2.1 x.2.2) (fun x=>x.2.2≤l.length∧x.2.1=(l.take x.2.2).map (fun x=>x.2.2.1)∧(x.1=false↔x.2.2=0)) (fun x=>l.length - x.2.2) (false,[],0) (by kernel_rfl) ⟨Nat.zero_le _,rfl,by simp⟩ ?_
 rintro ⟨b,q,k⟩ ⟨k1,k2,k3⟩ J hJ
 simp only at k1 k2 k3
 have next : ∀ x,l[k]? = some x→(l.take (k+1)).map (fun x=>x.2.2.1)=q++[x.2.2.1]:=fun x hx=>by rw [List.take_add_one,hx,k2]; simp
 cases b with
 | false =>
  show _
  have hk0:=k3.1 rfl
  refine see (p:=ifB (decide ((↑k:Int)<(↑(ptl l).length:Int))) (onSome (ptl l)[k]? fun row=>onCons (List.drop 0 row) fun u r=>onIntK IntKind.i64 u fun n=>onCons r fun u r=>onIntK IntKind.i64 u fun n=>onCons r fun u r=>onIntK IntKind.i64 u fun n=>onCons r fun u r=>onIntK IntKind.u8 u fun n_1=>J (St.mk (mkT [(3,V.sl (Id.p 0) 0 1),(7,V.lst 4 (ptl l)),(8,iv (↑(ptl l).length:Int)),(9,iv (IntKind.i64.wrap ((↑k:Int)+(1:Int))))]) (Hp.mk [(0,O.rows 1 true [[iv n]])] 1 []))) (R nilS)) (by kernel_rfl) ?_
  refine ifB_mk (fun hb=>?_) (fun hb=>?_) <;> rw [ptl_length] at hb
  ·have hlt:=of_decide_eq_true hb
   obtain ⟨x,hx⟩:=getI (show k<l.length by omega)
   refine ptel hx ?_
   rw [wrapI (by omega) (by omega)]
   have hn:=next x hx
   rw [k2,hk0] at hn
   exact hJ (true,[x.2.2.1],k+1) ⟨by simp only; omega,by simp only; rw [hk0]; exact hn.symm,by simp⟩ (by simp only; omega)
  ·have:=of_decide_eq_false hb; omega
 | true =>
  show _
  refine see (p:=ifB (decide ((↑k:Int)<(↑(ptl l).length:Int))) (onSome (ptl l)[k]? fun row=>onCons (List.drop 0 row) fun u r=>onIntK IntKind.i64 u fun n=>onCons r fun u r=>onIntK IntKind.i64 u fun n_1=>onCons r fun u r=>onIntK IntKind.i64 u fun n_2=>onCons r fun u r=>onIntK IntKind.u8 u fun n_3=>need ((q.length+1) * 8≤140737488355328) (J (St.mk (mkT [(3,V.sl (Id.p 0) 0 (q.length+1)),(7,V.lst 4 (ptl l)),(8,iv (↑(ptl l).length:Int)),(9,iv (IntKind.i64.wrap ((↑k:Int)+(1:Int))))]) (Hp.mk [(0,O.rows 1 true (List.take q.length (il q)++[[iv n_2]]))] 1 [])))) (R (V.lst 1 (sub (il q) 0 q.length)))) (by kernel_rfl) ?_
  refine ifB_mk (fun hb=>?_) (fun hb=>?_) <;> rw [ptl_length] at hb
  ·have hlt:=of_decide_eq_true hb
   obtain ⟨x,hx⟩:=getI (show k<l.length by omega)
   have hql:q.length≤8:=by rw [k2,List.length_map,List.length_take]; omega
   refine ptel hx (need_mk ⟨by omega,?_⟩)
   rw [take_il,il_app,wrapI (by omega) (by omega)]
   have:=hJ (true,q++[x.2.2.1],k+1) ⟨by simp only; omega,(next x hx).symm,by simp⟩ (by simp only; omega)
   simp only at this
   unfold sh92s at this
   rw [List.length_append] at this
   exact this
  ·have hge:=of_decide_eq_false hb
   rw [List.take_of_length_le (by omega)] at k2
   rw [sub_il,k2]
   exact hR
def sameD (x:Ld) (y:Pc):Prop:=x.1=(y.1:Int)∧x.2.1=y.2.1∧x.2.2=y.2.2.1
instance (x:Ld) (y:Pc):Decidable (sameD x y):=by unfold sameD; exact inferInstance
def look (pcs:List Pc) (x:Ld):Option Pc:=pcs.find? fun y=>decide (sameD x y)
abbrev TkS:=List Pc×List Int×Nat
def tkStep (pcs:List Pc) (s:TkS) (x:Ld):Option TkS:=match look pcs x with
 | none=>none
 | some y=>if lowB y.2.2.2.1=lowB s.2.2∧difN y.2.2.2.1 s.2.2=0∧s.2.1.getD y.1 0≠0 then some (s.1++[y],s.2.1.set y.1 (s.2.1.getD y.1 0 - 1),difN s.2.2 y.2.2.2.1) else none
def tkF (pcs:List Pc) (s:TkS) (cs:List Ld):Option TkS:=cs.foldlM (tkStep pcs) s
theorem tkF_snoc {pcs:List Pc} {s s' : TkS} {cs:List Ld} {i:Nat} {x:Ld} (h:tkF pcs s (cs.take i)=some s') (hx:cs[i]? = some x):tkF pcs s (cs.take (i+1))=tkStep pcs s' x:=by
 unfold tkF at h ⊢
 rw [List.take_add_one,hx,List.foldlM_append,h]
 simp
theorem tkF_none {pcs:List Pc} {s:TkS} {cs:List Ld} {i:Nat} (h:tkF pcs s (cs.take i)=none):tkF pcs s cs=none:=by
 unfold tkF at h ⊢
 rw [← List.take_append_drop i cs,List.foldlM_append,h]
 rfl
def tkOK (pcs:List Pc) (l:List Pt) (N:Nat) (cs:List Ld):Option (List Pc):=match tkF pcs ([],l.map (fun x=>x.2.2.1),2 ^ N - 1) cs with
 | some s=>if s.2.2=0 then some s.1 else none
 | none=>none
theorem eq100d (x:Ld) (y:Pc):eqC Tryd.prog 8 100 (V.agg (ldR x)) (pcK y)=some ((x.1==(y.1:Int))&&((x.2.1.1==y.2.1.1&&(x.2.1.2.1==y.2.1.2.1&&(x.2.1.2.2==y.2.1.2.2&&true)))&&((x.2.2==y.2.2.1)&&true))):=by kernel_rfl
theorem eq100e (x:Ld) (y:Pc):((x.1==(y.1:Int))&&((x.2.1.1==y.2.1.1&&(x.2.1.2.1==y.2.1.2.1&&(x.2.1.2.2==y.2.1.2.2&&true)))&&((x.2.2==y.2.2.1)&&true)))=decide (sameD x y):=by
 rw [Bool.eq_iff_iff]
 obtain ⟨a,⟨b,c,d⟩,e⟩:=x
 obtain ⟨a', ⟨b', c', d'⟩,e', f', g'⟩:=y
 simp [sameD]
theorem onPie {x:Ld} {K:Nat→V→V→Prop} {N:Prop} : ∀ {l:List Pc} {i:Nat} (h1 : ∀ j y,look l x=some y→K j (pcK y) (V.agg (pcR y))) (h2:look l x=none→N),onFind (findK Tryd.prog 100 (V.agg (ldR x)) (pieE l) i) K N
 | [],i,h1,h2=>h2 rfl
 | y::l,i,h1,h2=>by
  unfold pieE
  rw [List.map_cons,findK_cons (eq100d x y),eq100e]
  unfold look at h1 h2
  rw [List.find?_cons] at h1 h2
  by_cases e:sameD x y
  ·simp only [e,decide_true] at h1
   simp only [e,decide_true,cond_true]
   exact h1 i y rfl
  ·simp only [e,decide_false] at h1 h2
   simp only [e,decide_false,cond_false]
   exact onPie (l:=l) h1 h2
theorem onAgg_pc {y:Pc} {K:Int→Int→Int→Int→Bool→Int→Int→Prop} (h:K y.1 y.2.1.1 y.2.1.2.1 y.2.1.2.2 y.2.2.1 y.2.2.2.1 y.2.2.2.2):onAgg (V.agg (pcR y)) fun cs_1=>onCons cs_1 fun u_6 r=>onIntK IntKind.i64 u_6 fun n=>onCons r fun u_7 r=>onIntK IntKind.i64 u_7 fun n_4=>onCons r fun u_8 r=>onIntK IntKind.i64 u_8 fun n_5=>onCons r fun u_9 r=>onIntK IntKind.i64 u_9 fun n_6=>onCons r fun u_10 r=>onBool u_10 fun b=>onCons r fun u_11 r=>onIntK IntKind.u16 u_11 fun n_7=>onCons r fun u_12 r=>onIntK IntKind.u16 u_12 fun n_8=>onNil r (K n n_4 n_5 n_6 b n_7 n_8):=h
theorem ldel {l:List Ld} {i:Nat} {x:Ld} {k:Int→Int→Int→Int→Bool→Prop} (h:l[i]? = some x) (hk:k x.1 x.2.1.1 x.2.1.2.1 x.2.1.2.2 x.2.2):onSome (ldl l)[i]? fun row=>onCons (List.drop 0 row) fun u r=>onIntK IntKind.i64 u fun a=>onCons r fun u r=>onIntK IntKind.i64 u fun b=>onCons r fun u r=>onIntK IntKind.i64 u fun c=>onCons r fun u r=>onIntK IntKind.i64 u fun d=>onCons r fun u r=>onBool u fun e=>k a b c d e :=
 onSome_mk (by simp [ldl,h]:(ldl l)[i]? = some (ldR x)) (onCons_cons (onIntK_iv (onCons_cons (onIntK_iv (onCons_cons (onIntK_iv (onCons_cons (onIntK_iv (onCons_cons hk)))))))))
theorem ldl_length (l:List Ld):(ldl l).length=l.length:=by simp [ldl]
theorem il_at {q:List Int} {m:Nat} (h:m<q.length):(il q)[0+m]? = some [iv (q.getD m 0)]:=by rw [Nat.zero_add]; simp [il,List.getD,h]
theorem il_set {q:List Int} {m:Nat} {x:Int}:(il q).set (0+m) (iv x::(List.append []) (List.drop 1 [iv (q.getD m 0)]))=il (q.set m x):=by
 rw [Nat.zero_add]; unfold il; rw [List.map_set]; rfl
theorem take72 {w d h:Int} {u:Nat} {c:List Nat} {l:List Pt} {L:List C3} {nE pE:List (V×V)} {bg wr:List (List V)} {sc:Nat} {cs:List Ld} {pcs:List Pc} {R:V→Prop} (hl:1≤l.length∧l.length≤8) (hN : ∀ x∈l,0≤x.2.2.1∧x.2.2.1≤99) (hLn:1≤L.length∧L.length≤16) (hsc:sc=5∨cs=[]) (hcs:cs.length≤1000)
  (hpE:pE=pieE pcs) (hp : ∀ y∈pcs,y.1<l.length∧y.2.2.2.1<65536) (h0 : ∀ ps,tkOK pcs l L.length cs=some ps→R (.tup [.lst 7 (ps.map pcR),bv true])) (h1:tkOK pcs l L.length cs=none → ∀ v,v=nilS∨(∃ rs,v = .lst 7 rs)→R (.tup [v,bv false])):K0G Tryd.prog glX 72 [bdT w d h u c l L nE pE bg wr,.lst sc (ldl cs)] R:=by
 refine K0_of_WY0 hmX hcW 3000 Tryd.func72 (see (p:=KB Tryd.prog glX 92 [V.agg [iv w,iv d,iv h,V.lst u (nb c),V.lst 4 (ptl l),V.lst 3 (fullR L),V.fmp nE,V.fmp pE,V.lst 1 bg,V.lst 4 wr]] (Hp.mk [] 0 []) fun v=>onLst v fun s es=>guardB (s.beq 1 || s.beq 0) (K0G Tryd.prog glX 100 [iv (↑(fullR L).length:Int)] fun v=>onIntK IntKind.u16 v fun n=>La 0 [(2:Tmp),(6:Tmp),(7:Tmp),(8:Tmp),(17:Tmp),(18:Tmp),(19:Tmp),(6000000:Tmp)] (WY Tryd.prog cfW 2993 (Env.mk (Bs.mk 0 []) 0 none 76 72 0) (cdAt [1,1,1,0,1,0,0] (bodyOf Tryd.f72))) (Qblk 0 (Qthen (WY Tryd.prog cfW 2996 (Env.mk (Bs.mk 0 []) 0 none 76 72 0) (cdAt [1,1,1,1] (bodyOf Tryd.f72)) (QendX Tryd.prog Tryd.f72 fun v h=>R (frzW h v))) (QendX Tryd.prog Tryd.f72 fun v h=>R (frzW h v)))) (St.mk (mkT [(2,V.ptr (Id.p 0) 0 0),(6,nilS),(7,V.sl (Id.p 1) 0 es.length),(8,V.raw (Value.int IntKind.u16 n)),(17,V.lst sc (ldl cs)),(18,iv (↑(ldl cs).length:Int)),(19,iv (0:Int))]) (Hp.mk [(0,O.rows 10 false [[iv w,iv d,iv h,V.lst u (nb c),V.lst 4 (ptl l),V.lst 3 (fullR L),V.fmp nE,V.fmp pE,V.lst 1 bg,V.lst 4 wr]]),(1,O.rows 1 true es)] 2 [])))) (by kernel_rfl) ?_)
 refine supply92 hl (onLst_lst (guardB_mk rfl ?_))
 have hfl:(fullR L).length=L.length:=by simp [fullR]
 rw [hfl]
 refine firsts100 hLn.2 (onIntK_u16 ?_)
 have hpow:2 ^ L.length≤2 ^ 16:=Nat.pow_le_pow_right (n:=2) (by omega) hLn.2
 refine La.of (σ:=Bool×TkS×Nat) (fun x=>match x.1 with | false=>sh72n w d h u c l L nE pE bg wr sc cs x.2.1.2.1 x.2.1.2.2 x.2.2 | true=>sh72s w d h u c l L nE pE bg wr sc cs x.2.1.2.1 x.2.1.2.2 x.2.2 (x.2.1.1.map pcR)) (fun x=>x.2.2≤cs.length∧tkF pcs ([],l.map (fun x=>x.2.2.1),2 ^ L.length - 1) (cs.take x.2.2)=some x.2.1∧(x.1=false↔x.2.2=0)∧x.2.1.2.2<65536∧x.2.1.2.1.length=l.length∧(∀ m,0≤x.2.1.2.1.getD m 0∧x.2.1.2.1.getD m 0≤99)∧x.2.1.1.length=x.2.2) (fun x=>cs.length - x.2.2) (false,([],l.map (fun x=>x.2.2.1),2 ^ L.length - 1),0) (by rw [il_len]; kernel_rfl)
  ⟨Nat.zero_le _,rfl,by simp,by simp only; omega,by simp,fun m=>?_,rfl⟩ ?_
 ·simp only
  rw [List.getD_eq_getElem?_getD,List.getElem?_map]
  cases hm:l[m]? with
  | none=>simp
  | some x=>exact hN x (List.mem_of_getElem? hm)
 rintro ⟨b,⟨ps,lf,op⟩,i⟩ ⟨k1,k2,k3,k4,k5,k6,k7⟩ J hJ
 simp only at k1 k2 k3 k4 k5 k6 k7
 cases b with
 | false =>
  show _
  refine see (p:=ifB (decide ((↑i:Int)<(↑(ldl cs).length:Int))) (need (sc=5) (onSome (ldl cs)[i]? fun row=>onCons (List.drop 0 row) fun u_1 r=>onIntK IntKind.i64 u_1 fun n=>onCons r fun u_2 r=>onIntK IntKind.i64 u_2 fun n_1=>onCons r fun u_3 r=>onIntK IntKind.i64 u_3 fun n_2=>onCons r fun u_4 r=>onIntK IntKind.i64 u_4 fun n_3=>onCons r fun u_5 r=>onBool u_5 fun b=>onFind (findK Tryd.prog 100 (V.agg [iv n,iv n_1,iv n_2,iv n_3,bv b]) pE 0) (fun i_1 kv vv=>onAgg vv fun cs_1=>onCons cs_1 fun u_6 r=>onIntK IntKind.i64 u_6 fun n=>onCons r fun u_7 r=>onIntK IntKind.i64 u_7 fun n_4=>onCons r fun u_8 r=>onIntK IntKind.i64 u_8 fun n_5=>onCons r fun u_9 r=>onIntK IntKind.i64 u_9 fun n_6=>onCons r fun u_10 r=>onBool u_10 fun b=>onCons r fun u_11 r=>onIntK IntKind.u16 u_11 fun n_7=>onCons r fun u_12 r=>onIntK IntKind.u16 u_12 fun n_8=>onNil r (K0G Tryd.prog glX 94 [V.raw (Value.int IntKind.u16 n_7)] fun v=>onIntK IntKind.i64 v fun n_9=>K0G Tryd.prog glX 94 [V.raw (Value.int IntKind.u16 (↑op:Int))] fun v=>onIntK IntKind.i64 v fun n_10=>ifB (n_9 != n_10) (R (V.tup [nilS,bv false])) (K0G Tryd.prog glX 73 [V.raw (Value.int IntKind.u16 (↑op:Int)),V.raw (Value.int IntKind.u16 n_7)] fun v=>onBool v fun b_1=>ifB (!b_1) (R (V.tup [nilS,bv false])) (onNat n fun m=>need (m<lf.length) (onSome (il lf)[0+m]? fun row=>onSome row[0]? fun v=>onIntK IntKind.i64 v fun n_11=>ifB (n_11==(0:Int)) (R (V.tup [nilS,bv false])) (onNat n fun m=>need (m<lf.length) (onSome (il lf)[0+m]? fun row=>onSome row[0]? fun v=>onIntK IntKind.i64 v fun n_12=>onNat n fun m=>need (m<lf.length) (onSome (il lf)[0+m]? fun row=>guardB ((0+1).ble row.length) (K0G Tryd.prog glX 95 [V.raw (Value.int IntKind.u16 (↑op:Int)),V.raw (Value.int IntKind.u16 n_7)] fun v=>onIntK IntKind.u16 v fun n_13=>J (St.mk (mkT [(2,V.ptr (Id.p 0) 0 0),(6,V.sl (Id.p 1) 0 1),(7,V.sl (Id.p 2) 0 lf.length),(8,V.raw (Value.int IntKind.u16 n_13)),(17,V.lst sc (ldl cs)),(18,iv (↑(ldl cs).length:Int)),(19,iv (IntKind.i64.wrap ((↑i:Int)+(1:Int))))]) (Hp.mk [(0,O.rows 10 false [[iv w,iv d,iv h,V.lst u (nb c),V.lst 4 (ptl l),V.lst 3 (fullR L),V.fmp nE,V.fmp pE,V.lst 1 bg,V.lst 4 wr]]),(1,O.rows 7 true [[iv n,iv n_4,iv n_5,iv n_6,bv b,V.raw (Value.int IntKind.u16 n_7),V.raw (Value.int IntKind.u16 n_8)]]),(2,O.rows 1 true ((il lf).set (0+m) (iv (IntKind.i64.wrap (n_12 - (1:Int)))::(List.append []) (List.drop 1 row))))] 3 []))))))))))) (R (V.tup [nilS,bv false])))) (R (V.tup [nilS,bv ((↑op:Int)==(0:Int))]))) (by kernel_rfl) ?_
  refine ifB_mk (fun hb=>?_) (fun hb=>?_) <;> rw [ldl_length] at hb
  ·have hlt:i<cs.length:=by have:=of_decide_eq_true hb; omega
   obtain ⟨x,hx⟩:=getI hlt
   have hsn:=tkF_snoc k2 hx
   have bad:tkStep pcs (ps,lf,op) x=none→R (V.tup [nilS,bv false]):=fun e=>h1 (by
    have:=tkF_none (hsn.trans e)
    unfold tkOK; rw [this]) _ (.inl rfl)
   refine need_mk ⟨hsc.resolve_right (by rintro rfl; simp at hlt),ldel hx ?_⟩
   subst hpE
   refine onPie (x:=x) (fun _ y hy=>?_) (fun hy=>bad (by unfold tkStep; rw [hy]))
   obtain ⟨p1,p2⟩:=hp y (List.mem_of_find?_eq_some hy)
   have hst:tkStep pcs (ps,lf,op) x=if lowB y.2.2.2.1=lowB op∧difN y.2.2.2.1 op=0∧lf.getD y.1 0≠0 then some (ps++[y],lf.set y.1 (lf.getD y.1 0 - 1),difN op y.2.2.2.1) else none:=by unfold tkStep; rw [hy]
   have hm:y.1<lf.length:=by omega
   have hsame:x.1=(y.1:Int):=by
    have:=List.find?_some hy
    exact (of_decide_eq_true this).1
   refine onAgg_pc (first94 p2 (onIntK_iv (first94 k4 (onIntK_iv (ifB_mk (fun c1=>bad ?_) (fun c1=>?_))))))
   ·rw [hst,if_neg]
    rintro ⟨e,_⟩
    rw [e] at c1; simp at c1
   have c1:lowB y.2.2.2.1=lowB op:=by
    have:((lowB y.2.2.2.1:Nat):Int)=(lowB op:Int):=by simpa using c1
    omega
   refine has73 (ifB_mk (fun c2=>bad ?_) (fun c2=>?_))
   ·rw [hst,if_neg]
    rintro ⟨_,e,_⟩
    rw [e] at c2; simp at c2
   have c2:difN y.2.2.2.1 op=0:=by simpa using c2
   refine onNat_mk rfl (need_mk ⟨hm,onSome_mk (il_at hm) (onSome_mk rfl (onIntK_iv (ifB_mk (fun c3=>bad ?_) (fun c3=>?_))))⟩)
   ·rw [hst,if_neg]
    rintro ⟨_,_,e⟩
    exact e (by simpa using c3)
   have c3:lf.getD y.1 0≠0:=by simpa using c3
   rw [if_pos ⟨c1,c2,c3⟩] at hst
   refine onNat_mk rfl (need_mk ⟨hm,onSome_mk (il_at hm) (onSome_mk rfl (onIntK_iv (onNat_mk rfl (need_mk ⟨hm,onSome_mk (il_at hm) (guardB_mk rfl (without95 (onIntK_u16 ?_)))⟩))))⟩)
   ·skip
    have hg:=k6 y.1
    rw [wrapI (n:=lf.getD y.1 0 - 1) (by omega) (by omega),wrapI (n:=(i:Int)+1) (by omega) (by omega),il_set]
    have inv' : i+1≤cs.length∧tkF pcs ([],l.map (fun x=>x.2.2.1),2 ^ L.length - 1) (cs.take (i+1))=some (ps++[y],lf.set y.1 (lf.getD y.1 0 - 1),difN op y.2.2.2.1)∧(true=false↔i+1=0)∧difN op y.2.2.2.1<65536∧(lf.set y.1 (lf.getD y.1 0 - 1)).length=l.length∧(∀ m,0≤(lf.set y.1 (lf.getD y.1 0 - 1)).getD m 0∧(lf.set y.1 (lf.getD y.1 0 - 1)).getD m 0≤99)∧(ps++[y]).length=i+1:=by
     refine ⟨hlt,hsn.trans hst,by simp,difN_lt _ _,by rw [List.length_set]; exact k5,fun m=>?_,by rw [List.length_append,k7]; rfl⟩
     rw [List.getD_eq_getElem?_getD,List.getElem?_set]
     by_cases e:y.1=m
     ·rw [if_pos e,if_pos (by omega)]
      simp only [Option.getD_some]
      omega
     ·rw [if_neg e,← List.getD_eq_getElem?_getD]
      exact k6 m
    have:=hJ (true,(ps++[y],lf.set y.1 (lf.getD y.1 0 - 1),difN op y.2.2.2.1),i+1) inv' (by simp only; omega)
    simp only at this
    rw [show ps=[] from List.eq_nil_of_length_eq_zero (by rw [k7]; exact k3.1 rfl)] at this
    unfold sh72s at this
    rw [List.length_set] at this
    exact this
  ·have hi:=of_decide_eq_false hb
   have hi0:=k3.1 rfl
   have hcs0:cs=[]:=List.eq_nil_of_length_eq_zero (by omega)
   subst hcs0
   have hop:op=2 ^ L.length - 1:=by
    rw [hi0] at k2
    simp [tkF] at k2
    exact k2.2.2.symm
   have hpow:2≤2 ^ L.length:=Nat.pow_le_pow_right (n:=2) (by omega) hLn.1
   have:((op:Int)==(0:Int))=false:=by rw [hop]; simp; omega
   rw [this]
   refine h1 ?_ _ (.inl rfl)
   unfold tkOK
   simp [tkF]
   omega
 | true =>
  show _
  obtain ⟨pr,hpr⟩ : ∃ pr:List (List V),pr=ps.map pcR:=⟨_,rfl⟩
  rw [← hpr]
  have hprl:pr.length=i:=by rw [hpr,List.length_map]; exact k7
  refine see (p:=ifB (decide ((↑i:Int)<(↑(ldl cs).length:Int))) (need (sc=5) (onSome (ldl cs)[i]? fun row=>onCons (List.drop 0 row) fun u_1 r=>onIntK IntKind.i64 u_1 fun n=>onCons r fun u_2 r=>onIntK IntKind.i64 u_2 fun n_1=>onCons r fun u_3 r=>onIntK IntKind.i64 u_3 fun n_2=>onCons r fun u_4 r=>onIntK IntKind.i64 u_4 fun n_3=>onCons r fun u_5 r=>onBool u_5 fun b=>onFind (findK Tryd.prog 100 (V.agg [iv n,iv n_1,iv n_2,iv n_3,bv b]) pE 0) (fun i_1 kv vv=>onAgg vv fun cs_1=>onCons cs_1 fun u_6 r=>onIntK IntKind.i64 u_6 fun n=>onCons r fun u_7 r=>onIntK IntKind.i64 u_7 fun n_4=>onCons r fun u_8 r=>onIntK IntKind.i64 u_8 fun n_5=>onCons r fun u_9 r=>onIntK IntKind.i64 u_9 fun n_6=>onCons r fun u_10 r=>onBool u_10 fun b=>onCons r fun u_11 r=>onIntK IntKind.u16 u_11 fun n_7=>onCons r fun u_12 r=>onIntK IntKind.u16 u_12 fun n_8=>onNil r (K0G Tryd.prog glX 94 [V.raw (Value.int IntKind.u16 n_7)] fun v=>onIntK IntKind.i64 v fun n_9=>K0G Tryd.prog glX 94 [V.raw (Value.int IntKind.u16 (↑op:Int))] fun v=>onIntK IntKind.i64 v fun n_10=>ifB (n_9 != n_10) (R (V.tup [nilS,bv false])) (K0G Tryd.prog glX 73 [V.raw (Value.int IntKind.u16 (↑op:Int)),V.raw (Value.int IntKind.u16 n_7)] fun v=>onBool v fun b_1=>ifB (!b_1) (R (V.tup [nilS,bv false])) (onNat n fun m=>need (m<lf.length) (onSome (il lf)[0+m]? fun row=>onSome row[0]? fun v=>onIntK IntKind.i64 v fun n_11=>ifB (n_11==(0:Int)) (R (V.tup [nilS,bv false])) (onNat n fun m=>need (m<lf.length) (onSome (il lf)[0+m]? fun row=>onSome row[0]? fun v=>onIntK IntKind.i64 v fun n_12=>onNat n fun m=>need (m<lf.length) (onSome (il lf)[0+m]? fun row=>guardB ((0+1).ble row.length) (K0G Tryd.prog glX 95 [V.raw (Value.int IntKind.u16 (↑op:Int)),V.raw (Value.int IntKind.u16 n_7)] fun v=>onIntK IntKind.u16 v fun n_13=>need ((pr.length+1) * 48≤140737488355328) (J (St.mk (mkT [(2,V.ptr (Id.p 0) 0 0),(6,V.sl (Id.p 1) 0 (pr.length+1)),(7,V.sl (Id.p 2) 0 lf.length),(8,V.raw (Value.int IntKind.u16 n_13)),(17,V.lst sc (ldl cs)),(18,iv (↑(ldl cs).length:Int)),(19,iv (IntKind.i64.wrap ((↑i:Int)+(1:Int))))]) (Hp.mk [(0,O.rows 10 false [[iv w,iv d,iv h,V.lst u (nb c),V.lst 4 (ptl l),V.lst 3 (fullR L),V.fmp nE,V.fmp pE,V.lst 1 bg,V.lst 4 wr]]),(1,O.rows 7 true (List.take pr.length pr++[[iv n,iv n_4,iv n_5,iv n_6,bv b,V.raw (Value.int IntKind.u16 n_7),V.raw (Value.int IntKind.u16 n_8)]])),(2,O.rows 1 true ((il lf).set (0+m) (iv (IntKind.i64.wrap (n_12 - (1:Int)))::(List.append []) (List.drop 1 row))))] 3 [])))))))))))) (R (V.tup [nilS,bv false])))) (R (V.tup [V.lst 7 (sub pr 0 pr.length),bv ((↑op:Int)==(0:Int))]))) (by kernel_rfl) ?_
  refine ifB_mk (fun hb=>?_) (fun hb=>?_) <;> rw [ldl_length] at hb
  ·have hlt:i<cs.length:=by have:=of_decide_eq_true hb; omega
   obtain ⟨x,hx⟩:=getI hlt
   have hsn:=tkF_snoc k2 hx
   have bad:tkStep pcs (ps,lf,op) x=none→R (V.tup [nilS,bv false]):=fun e=>h1 (by
    have:=tkF_none (hsn.trans e)
    unfold tkOK; rw [this]) _ (.inl rfl)
   refine need_mk ⟨hsc.resolve_right (by rintro rfl; simp at hlt),ldel hx ?_⟩
   subst hpE
   refine onPie (x:=x) (fun _ y hy=>?_) (fun hy=>bad (by unfold tkStep; rw [hy]))
   obtain ⟨p1,p2⟩:=hp y (List.mem_of_find?_eq_some hy)
   have hst:tkStep pcs (ps,lf,op) x=if lowB y.2.2.2.1=lowB op∧difN y.2.2.2.1 op=0∧lf.getD y.1 0≠0 then some (ps++[y],lf.set y.1 (lf.getD y.1 0 - 1),difN op y.2.2.2.1) else none:=by unfold tkStep; rw [hy]
   have hm:y.1<lf.length:=by omega
   have hsame:x.1=(y.1:Int):=by
    have:=List.find?_some hy
    exact (of_decide_eq_true this).1
   refine onAgg_pc (first94 p2 (onIntK_iv (first94 k4 (onIntK_iv (ifB_mk (fun c1=>bad ?_) (fun c1=>?_))))))
   ·rw [hst,if_neg]
    rintro ⟨e,_⟩
    rw [e] at c1; simp at c1
   have c1:lowB y.2.2.2.1=lowB op:=by
    have:((lowB y.2.2.2.1:Nat):Int)=(lowB op:Int):=by simpa using c1
    omega
   refine has73 (ifB_mk (fun c2=>bad ?_) (fun c2=>?_))
   ·rw [hst,if_neg]
    rintro ⟨_,e,_⟩
    rw [e] at c2; simp at c2
   have c2:difN y.2.2.2.1 op=0:=by simpa using c2
   refine onNat_mk rfl (need_mk ⟨hm,onSome_mk (il_at hm) (onSome_mk rfl (onIntK_iv (ifB_mk (fun c3=>bad ?_) (fun c3=>?_))))⟩)
   ·rw [hst,if_neg]
    rintro ⟨_,_,e⟩
    exact e (by simpa using c3)
   have c3:lf.getD y.1 0≠0:=by simpa using c3
   rw [if_pos ⟨c1,c2,c3⟩] at hst
   refine onNat_mk rfl (need_mk ⟨hm,onSome_mk (il_at hm) (onSome_mk rfl (onIntK_iv (onNat_mk rfl (need_mk ⟨hm,onSome_mk (il_at hm) (guardB_mk rfl (without95 (onIntK_u16 ?_)))⟩))))⟩)
   ·refine need_mk ⟨by omega,?_⟩
    have hg:=k6 y.1
    rw [wrapI (n:=lf.getD y.1 0 - 1) (by omega) (by omega),wrapI (n:=(i:Int)+1) (by omega) (by omega),il_set]
    have inv' : i+1≤cs.length∧tkF pcs ([],l.map (fun x=>x.2.2.1),2 ^ L.length - 1) (cs.take (i+1))=some (ps++[y],lf.set y.1 (lf.getD y.1 0 - 1),difN op y.2.2.2.1)∧(true=false↔i+1=0)∧difN op y.2.2.2.1<65536∧(lf.set y.1 (lf.getD y.1 0 - 1)).length=l.length∧(∀ m,0≤(lf.set y.1 (lf.getD y.1 0 - 1)).getD m 0∧(lf.set y.1 (lf.getD y.1 0 - 1)).getD m 0≤99)∧(ps++[y]).length=i+1:=by
     refine ⟨hlt,hsn.trans hst,by simp,difN_lt _ _,by rw [List.length_set]; exact k5,fun m=>?_,by rw [List.length_append,k7]; rfl⟩
     rw [List.getD_eq_getElem?_getD,List.getElem?_set]
     by_cases e:y.1=m
     ·rw [if_pos e,if_pos (by omega)]
      simp only [Option.getD_some]
      omega
     ·rw [if_neg e,← List.getD_eq_getElem?_getD]
      exact k6 m
    have:=hJ (true,(ps++[y],lf.set y.1 (lf.getD y.1 0 - 1),difN op y.2.2.2.1),i+1) inv' (by simp only; omega)
    simp only at this
    rw [List.map_append,← hpr] at this
    unfold sh72s at this
    rw [List.length_set,List.length_append] at this
    rw [show List.take pr.length pr=pr from List.take_of_length_le (Nat.le_refl _)]
    exact this
  ·have hi:=of_decide_eq_false hb
   have hi0:i=cs.length:=by omega
   rw [hi0,List.take_length] at k2
   rw [show sub pr 0 pr.length=pr by unfold sub; rw [List.drop_zero,List.take_length]]
   by_cases e:op=0
   ·rw [show ((op:Int)==(0:Int))=true by rw [e]; rfl,hpr]
    exact h0 ps (by unfold tkOK; rw [k2]; simp [e])
   ·rw [show ((op:Int)==(0:Int))=false by simp; omega]
    exact h1 (by unfold tkOK; rw [k2]; simp [e]) _ (.inr ⟨_,rfl⟩)
set_option maxRecDepth 100000
noncomputable def cfV:Cfg:=cfgD Tryd.prog glX (fun _=>0) dyB (inN [43]) kpT
set_option maxRecDepth 10000
theorem hcV:cfV.ok Tryd.prog:=cfgD_ok
theorem K0_args {P:Program} {G:Nat→Option (List V)} {f:FuncId} {args args' : List V} {R:V→Prop} (h:K0G P G f args R) (hr : ∀ F w xs,riL F w args' xs→riL F w args xs):K0G P G f args' R:=fun F w xs g1 g2 g3=>h F w xs g1 g2 (hr F w xs g3)
theorem one_lt {L:List C3} {C:Nat→Nat} {l:List Pt} {k i:Nat} {t:C3} {b:Bool} {x:Pc} (hL:L.length≤16) (h:x∈onePc L C l k t i b):x.2.2.2.1<65536:=by
 unfold onePc at h
 split at h
 ·split at h
  ·rename_i s hs
   simp at h; subst h; exact (fitS_ok hL hs).1
  ·simp at h
 ·simp at h
theorem all_lt {L:List C3} {C:Nat→Nat} {l:List Pt} {n:Nat} {x:Pc} (hL:L.length≤16) (h:x∈allPc L C l n):x.1<l.length∧x.2.2.2.1<65536:=by
 obtain ⟨_,_,_,_,_,h1⟩:=mem_allPc h
 refine ⟨h1,?_⟩
 unfold allPc at h
 rw [List.mem_flatMap] at h
 obtain ⟨k,hk,hx⟩:=h
 unfold cellPc at hx
 split at hx
 ·unfold upPc at hx
  rw [List.mem_flatMap] at hx
  obtain ⟨j,hj,hx⟩:=hx
  unfold plPc at hx
  rcases List.mem_append.1 hx with hx | hx
  ·exact one_lt hL hx
  ·exact one_lt hL hx
 ·simp at hx
def wlS (ws:List WL):Nat:=match ws with
 | []=>0
 | _=>4
def bdO (w d h:Int) (u:Nat) (c:List Nat) (l:List Pt):V := .agg [iv w,iv d,iv h,.lst u (nb c),.lst 4 (ptl l),.lst 3 (fullR (bdL w d c)),.fmp (numE (bdL w d c)),.fmp (pieE (allPc (bdL w d c) (colN c) l (bdL w d c).length)),.lst 1 (begR (bdL w d c).length (cellPc (bdL w d c) (colN c) l)),.lst (wlS (wallU (bdL w d c) (bdL w d c).length)) (wlR (wallU (bdL w d c) (bdL w d c).length))]
def laid (w d:Int) (c:List Nat) (l:List Pt) (cs:List Ld):Option (List Pc):=tkOK (allPc (bdL w d c) (colN c) l (bdL w d c).length) l (bdL w d c).length cs
theorem take72o {w d h:Int} {u:Nat} {c:List Nat} {l:List Pt} {sc:Nat} {cs:List Ld} {R:V→Prop} (hs:ShOK w d h c) (hpt:PtOK l) (hsc:sc=5∨cs=[]) (hcs:cs.length≤1000)
  (h0 : ∀ ps,laid w d c l cs=some ps→R (.tup [.lst 7 (ps.map pcR),bv true])) (h1:laid w d c l cs=none → ∀ v,v=nilS∨(∃ rs,v = .lst 7 rs)→R (.tup [v,bv false])):K0G Tryd.prog glX 72 [bdO w d h u c l,.lst sc (ldl cs)] R:=by
 have hlen:=celL_len hs
 have hL:(bdL w d c).length≤16:=by unfold bdL; omega
 refine K0_args (take72 (w:=w) (d:=d) (h:=h) (u:=u) (c:=c) (l:=l) (L:=bdL w d c) (nE:=numE (bdL w d c)) (pE:=pieE (allPc (bdL w d c) (colN c) l (bdL w d c).length)) (bg:=begR (bdL w d c).length (cellPc (bdL w d c) (colN c) l)) (wr:=wlR (wallU (bdL w d c) (bdL w d c).length)) (pcs:=allPc (bdL w d c) (colN c) l (bdL w d c).length) hpt.1 (fun x hx=>?_) ⟨by unfold bdL; omega,hL⟩ hsc hcs rfl (fun y hy=>all_lt hL hy) h0 h1) (fun F w' xs hx=>?_)
 ·obtain ⟨i,hi⟩:=List.getElem?_of_mem hx
  exact (hpt.2.1 i x hi).2.2.1
 ·unfold bdO at hx
  unfold bdT
  generalize wallU (bdL w d c) (bdL w d c).length=W at hx ⊢
  cases W with
  | nil=>simpa [riL,ri,riRows,wlS,wlR] using hx
  | cons v q=>exact hx
theorem composed43 {w d h:Int} {u:Nat} {c:List Nat} {l:List Pt} {sc:Nat} {cs:List Ld} {R:V→Prop} (hu:u=1∨c=[]) (hsc:sc=5∨cs=[]) (hcs:cs.length≤1000)
  (h70 : ¬ ShOK w d h c→R (.tup [.agg zr10,nilS,iv 70])) (h71:ShOK w d h c → ¬ PtOK l→R (.tup [.agg zr10,nilS,iv 71])) (h8:ShOK w d h c→PtOK l→laid w d c l cs=none→R (.tup [.agg zr10,nilS,iv 8]))
  (h0:ShOK w d h c→PtOK l → ∀ ps,laid w d c l cs=some ps→R (.tup [bdO w d h u c l,.lst 7 (ps.map pcR),iv 0])) :
  K0G Tryd.prog glX 43 [.agg [iv w,iv d,iv h,.lst u (nb c)],.lst 4 (ptl l),.lst sc (ldl cs)] R:=by
 refine K0_of_WY0 hmX hcV 3000 Tryd.func43 (see (p:=K0G Tryd.prog glX 55 [V.agg [iv w,iv d,iv h,V.lst u (nb c)],V.lst 4 (ptl l)] fun v=>onTup v fun vs=>onCons vs fun u r=>onAgg u fun cs_1=>onCons cs_1 fun u r_1=>onIntK IntKind.i64 u fun n=>onCons r_1 fun u r_2=>onIntK IntKind.i64 u fun n_1=>onCons r_2 fun u r_3=>onIntK IntKind.i64 u fun n_2=>onCons r_3 fun u r_4=>onLst u fun s es=>onCons r_4 fun u r_5=>onLst u fun s_1 es_1=>onCons r_5 fun u r_6=>onLst u fun s_2 es_2=>onCons r_6 fun u r_7=>onFmp u (onCons r_7 fun u r_8=>onFmp u (onCons r_8 fun u r_9=>onLst u fun s_3 es_3=>onCons r_9 fun u r_10=>onLst u fun s_4 es_4=>onNil r_10 (onCons r fun u r=>onIntK IntKind.i64 u fun n_3=>onNil r (ifB (n_3 != (0:Int)) (R (V.tup [V.agg [iv (0:Int),iv (0:Int),iv (0:Int),nilS,nilS,nilS,V.raw (Value.map none),V.raw (Value.map none),nilS,nilS],nilS,iv n_3])) (K0G Tryd.prog glX 72 [V.agg [iv n,iv n_1,iv n_2,V.lst s es,V.lst s_1 es_1,V.lst s_2 es_2,V.raw (Value.map none),V.raw (Value.map none),V.lst s_3 es_3,V.lst s_4 es_4],V.lst sc (ldl cs)] fun v=>onTup v fun vs=>onCons vs fun u r=>onLst u fun s_5 es_5=>onCons r fun u r=>onBool u fun b=>onNil r (ifB (!b) (R (V.tup [V.agg [iv (0:Int),iv (0:Int),iv (0:Int),nilS,nilS,nilS,V.raw (Value.map none),V.raw (Value.map none),nilS,nilS],nilS,iv (8:Int)])) (R (V.tup [V.agg [iv n,iv n_1,iv n_2,V.lst s es,V.lst s_1 es_1,V.lst s_2 es_2,V.raw (Value.map none),V.raw (Value.map none),V.lst s_3 es_3,V.lst s_4 es_4],V.lst s_5 es_5,iv (0:Int)]))))))) fun me=>onCons r_8 fun u r_9=>onLst u fun s_3 es_3=>onCons r_9 fun u r_10=>onLst u fun s_4 es_4=>onNil r_10 (onCons r fun u r=>onIntK IntKind.i64 u fun n_3=>onNil r (ifB (n_3 != (0:Int)) (R (V.tup [V.agg [iv (0:Int),iv (0:Int),iv (0:Int),nilS,nilS,nilS,V.raw (Value.map none),V.raw (Value.map none),nilS,nilS],nilS,iv n_3])) (K0G Tryd.prog glX 72 [V.agg [iv n,iv n_1,iv n_2,V.lst s es,V.lst s_1 es_1,V.lst s_2 es_2,V.raw (Value.map none),V.fmp me,V.lst s_3 es_3,V.lst s_4 es_4],V.lst sc (ldl cs)] fun v=>onTup v fun vs=>onCons vs fun u r=>onLst u fun s_5 es_5=>onCons r fun u r=>onBool u fun b=>onNil r (ifB (!b) (R (V.tup [V.agg [iv (0:Int),iv (0:Int),iv (0:Int),nilS,nilS,nilS,V.raw (Value.map none),V.raw (Value.map none),nilS,nilS],nilS,iv (8:Int)])) (R (V.tup [V.agg [iv n,iv n_1,iv n_2,V.lst s es,V.lst s_1 es_1,V.lst s_2 es_2,V.raw (Value.map none),V.fmp me,V.lst s_3 es_3,V.lst s_4 es_4],V.lst s_5 es_5,iv (0:Int)]))))))) fun me=>onCons r_7 fun u r_8=>onFmp u (onCons r_8 fun u r_9=>onLst u fun s_3 es_3=>onCons r_9 fun u r_10=>onLst u fun s_4 es_4=>onNil r_10 (onCons r fun u r=>onIntK IntKind.i64 u fun n_3=>onNil r (ifB (n_3 != (0:Int)) (R (V.tup [V.agg [iv (0:Int),iv (0:Int),iv (0:Int),nilS,nilS,nilS,V.raw (Value.map none),V.raw (Value.map none),nilS,nilS],nilS,iv n_3])) (K0G Tryd.prog glX 72 [V.agg [iv n,iv n_1,iv n_2,V.lst s es,V.lst s_1 es_1,V.lst s_2 es_2,V.fmp me,V.raw (Value.map none),V.lst s_3 es_3,V.lst s_4 es_4],V.lst sc (ldl cs)] fun v=>onTup v fun vs=>onCons vs fun u r=>onLst u fun s_5 es_5=>onCons r fun u r=>onBool u fun b=>onNil r (ifB (!b) (R (V.tup [V.agg [iv (0:Int),iv (0:Int),iv (0:Int),nilS,nilS,nilS,V.raw (Value.map none),V.raw (Value.map none),nilS,nilS],nilS,iv (8:Int)])) (R (V.tup [V.agg [iv n,iv n_1,iv n_2,V.lst s es,V.lst s_1 es_1,V.lst s_2 es_2,V.fmp me,V.raw (Value.map none),V.lst s_3 es_3,V.lst s_4 es_4],V.lst s_5 es_5,iv (0:Int)]))))))) fun me_1=>onCons r_8 fun u r_9=>onLst u fun s_3 es_3=>onCons r_9 fun u r_10=>onLst u fun s_4 es_4=>onNil r_10 (onCons r fun u r=>onIntK IntKind.i64 u fun n_3=>onNil r (ifB (n_3 != (0:Int)) (R (V.tup [V.agg [iv (0:Int),iv (0:Int),iv (0:Int),nilS,nilS,nilS,V.raw (Value.map none),V.raw (Value.map none),nilS,nilS],nilS,iv n_3])) (K0G Tryd.prog glX 72 [V.agg [iv n,iv n_1,iv n_2,V.lst s es,V.lst s_1 es_1,V.lst s_2 es_2,V.fmp me,V.fmp me_1,V.lst s_3 es_3,V.lst s_4 es_4],V.lst sc (ldl cs)] fun v=>onTup v fun vs=>onCons vs fun u r=>onLst u fun s_5 es_5=>onCons r fun u r=>onBool u fun b=>onNil r (ifB (!b) (R (V.tup [V.agg [iv (0:Int),iv (0:Int),iv (0:Int),nilS,nilS,nilS,V.raw (Value.map none),V.raw (Value.map none),nilS,nilS],nilS,iv (8:Int)])) (R (V.tup [V.agg [iv n,iv n_1,iv n_2,V.lst s es,V.lst s_1 es_1,V.lst s_2 es_2,V.fmp me,V.fmp me_1,V.lst s_3 es_3,V.lst s_4 es_4],V.lst s_5 es_5,iv (0:Int)]))))))) (by kernel_rfl) ?_)
 refine board55 hu (fun hs hpt=>?_) (fun q=>h70 q) (fun q q' => h71 q q')
 have main : ∀ s' es', wlS (wallU (bdL w d c) (bdL w d c).length)=s' → wlR (wallU (bdL w d c) (bdL w d c).length)=es' → bdO w d h u c l = .agg [iv w,iv d,iv h,.lst u (nb c),.lst 4 (ptl l),.lst 3 (fullR (bdL w d c)),.fmp (numE (bdL w d c)),.fmp (pieE (allPc (bdL w d c) (colN c) l (bdL w d c).length)),.lst 1 (begR (bdL w d c).length (cellPc (bdL w d c) (colN c) l)),.lst s' es']:=by
  rintro _ _ rfl rfl; rfl
 unfold bdG
 have h0:=h0 hs hpt
 have h8:=h8 hs hpt
 cases hW:wallU (bdL w d c) (bdL w d c).length with
 | nil =>
  rw [hW] at main
  have main:=main _ _ rfl rfl
  rw [show wlV []=nilS from rfl]
  show K0G Tryd.prog glX 72 [V.agg [iv w,iv d,iv h,.lst u (nb c),.lst 4 (ptl l),.lst 3 (fullR (bdL w d c)),.fmp (numE (bdL w d c)),.fmp (pieE (allPc (bdL w d c) (colN c) l (bdL w d c).length)),.lst 1 (begR (bdL w d c).length (cellPc (bdL w d c) (colN c) l)),.lst (wlS []) (wlR [])],_] _
  rw [← main]
  refine take72o hs hpt hsc hcs (fun ps hps=>onTup_tup (onCons_cons (onLst_lst (onCons_cons (onBool_bv (onNil_nil (ifB_f rfl ?_))))))) (fun hn v hv=>?_)
  ·have:=h0 ps hps
   rw [main] at this
   exact this
  ·rcases hv with rfl | ⟨rs,rfl⟩
   ·exact onTup_tup (onCons_cons (onLst_nil (onCons_cons (onBool_bv (onNil_nil (ifB_t rfl (h8 hn)))))))
   ·exact onTup_tup (onCons_cons (onLst_lst (onCons_cons (onBool_bv (onNil_nil (ifB_t rfl (h8 hn)))))))
 | cons x q =>
  rw [hW] at main
  have main:=main _ _ rfl rfl
  rw [show wlV (x::q) = .lst 4 (wlR (x::q)) from rfl]
  show K0G Tryd.prog glX 72 [V.agg [iv w,iv d,iv h,.lst u (nb c),.lst 4 (ptl l),.lst 3 (fullR (bdL w d c)),.fmp (numE (bdL w d c)),.fmp (pieE (allPc (bdL w d c) (colN c) l (bdL w d c).length)),.lst 1 (begR (bdL w d c).length (cellPc (bdL w d c) (colN c) l)),.lst (wlS (x::q)) (wlR (x::q))],_] _
  rw [← main]
  refine take72o hs hpt hsc hcs (fun ps hps=>onTup_tup (onCons_cons (onLst_lst (onCons_cons (onBool_bv (onNil_nil (ifB_f rfl ?_))))))) (fun hn v hv=>?_)
  ·have:=h0 ps hps
   rw [main] at this
   exact this
  ·rcases hv with rfl | ⟨rs,rfl⟩
   ·exact onTup_tup (onCons_cons (onLst_nil (onCons_cons (onBool_bv (onNil_nil (ifB_t rfl (h8 hn)))))))
   ·exact onTup_tup (onCons_cons (onLst_lst (onCons_cons (onBool_bv (onNil_nil (ifB_t rfl (h8 hn)))))))
set_option maxRecDepth 100000
def kpM:FuncId→Nat→Option (List Tmp):=slotsOf [(31,0,[6,8,11,26,27,28,6000000]),(32,0,[1,2,3,6,9,10]),(54,0,[1,2,3,7,8]),(54,2,[1,2,3,9]),(83,0,[0,1,2,3,4,11,12]),(81,0,[3,5,7,8,9,10,11]),(81,2,[3,5,7,8,9,10,11,12]),(75,0,[1,4,6,7,9]),(75,2,[1,4,6,7,9,10]),(75,4,[1,4,6,7,9,10,11])]
noncomputable def cfM:Cfg:=cfgD Tryd.prog glX (fun _=>0) dyB (inN [99,78,79,71]) kpM
set_option maxRecDepth 10000
theorem hcMo:cfM.ok Tryd.prog:=cfgD_ok
def swd (p:Pt) (b:Bool):Int:=if b then p.2.1 else p.1
def sdp (p:Pt) (b:Bool):Int:=if b then p.1 else p.2.1
theorem swd_le {p:Pt} (hp:POK p) (b:Bool):(1≤swd p b∧swd p b≤8)∧1≤sdp p b∧sdp p b≤8:=by
 have h1:=hp.1; have h2:=hp.2.1
 unfold swd sdp
 cases b <;> simp <;> omega
def hasB (p:Pt) (x:Ld) (a b e:Int):Bool:=e==x.2.1.2.2&&(decide (a ≥ x.2.1.1)&&(decide (a≤x.2.1.1+swd p x.2.2 - 1)&&(decide (b ≥ x.2.1.2.1)&&decide (b≤x.2.1.2.1+sdp p x.2.2 - 1))))
def ixI (w d:Int) (t:C3):Int:=(t.2.2 * d+t.2.1) * w+t.1
theorem ix_le {w d h a b e:Int} (ha:0≤a∧a<w) (hb:0≤b∧b<d) (he:0≤e∧e<h):(0≤e * d∧e * d+b≤h * d - 1)∧0≤(e * d+b) * w∧0≤(e * d+b) * w+a∧(e * d+b) * w+a≤w * d * h - 1:=by
 have h1:e * d≤(h - 1) * d:=Int.mul_le_mul_of_nonneg_right (by omega) (by omega)
 have h0:0≤e * d:=Int.mul_nonneg (by omega) (by omega)
 rw [Int.sub_mul,Int.one_mul] at h1
 have h2:(e * d+b) * w≤(h * d - 1) * w:=Int.mul_le_mul_of_nonneg_right (by omega) (by omega)
 have h3:0≤(e * d+b) * w:=Int.mul_nonneg (by omega) (by omega)
 rw [Int.sub_mul,Int.one_mul] at h2
 have h4:h * d * w=w * d * h:=by rw [Int.mul_comm h d,Int.mul_comm (d * h) w,Int.mul_assoc]
 omega
def atN (w d h:Int) (c:List Nat) (a b e:Int):Nat:=if (0≤a∧a<w)∧(0≤b∧b<d)∧0≤e∧e<h then c.getD ((e * d+b) * w+a).toNat 0 else 0
def hasL (l:List Pt) (x:Ld) (a b e:Int):Bool:=match l[x.1.toNat]? with
 | some p=>hasB p x a b e
 | none=>false
def byF (l:List Pt) (a b e:Int):List Ld→Nat→Int→Int
 | [],_,y=>y
 | x::r,i,y=>if hasL l x a b e then (if y = -1 then byF l a b e r (i+1) (i:Int) else -2) else byF l a b e r (i+1) y
def byI (l:List Pt) (cs:List Ld) (a b e:Int):Int:=byF l a b e cs 0 (-1)
def liesP (w d h:Int) (c:List Nat) (l:List Pt) (x:Ld):Prop:=((0≤x.1∧x.1<l.length)∧(0≤x.2.1.1∧x.2.1.1<w)∧(0≤x.2.1.2.1∧x.2.1.2.1<d)∧0≤x.2.1.2.2∧x.2.1.2.2<h) ∧
 ∃ p,l[x.1.toNat]? = some p ∧ ¬ (x.2.2=true∧p.1=p.2.1)∧(∀ y,x.2.1.2.1≤y→y<x.2.1.2.1+sdp p x.2.2 → ∀ z,x.2.1.1≤z→z<x.2.1.1+swd p x.2.2→atN w d h c z y x.2.1.2.2=atN w d h c x.2.1.1 x.2.1.2.1 x.2.1.2.2) ∧
  atN w d h c x.2.1.1 x.2.1.2.1 x.2.1.2.2≠0∧(p.2.2.2=0∨p.2.2.2=atN w d h c x.2.1.1 x.2.1.2.1 x.2.1.2.2)
def usedN (cs:List Ld) (i m:Nat):Nat:=(cs.take i).countP fun x=>decide (x.1=(m:Int))
theorem usedN_succ {cs:List Ld} {i m:Nat} {x:Ld} (h:cs[i]? = some x):usedN cs (i+1) m=usedN cs i m+if x.1=(m:Int) then 1 else 0:=by
 unfold usedN
 rw [List.take_add_one,h,List.countP_append]
 simp [List.countP_cons]
def compAt (w d h:Int) (c:List Nat) (l:List Pt) (cs:List Ld) (i:Nat) (x:Ld):Prop:=liesP w d h c l x∧(∀ y,0<i→cs[i - 1]? = some y→ixI w d y.2.1<ixI w d x.2.1) ∧ ∀ p,l[x.1.toNat]? = some p→(usedN cs (i+1) x.1.toNat:Int)≤p.2.2.1
def compP (w d h:Int) (c:List Nat) (l:List Pt) (cs:List Ld):Prop:=(∀ i x,cs[i]? = some x→compAt w d h c l cs i x) ∧ ∀ i,i<c.length→c.getD i 0≠0→0≤byI l cs (cel w d i).1 (cel w d i).2.1 (cel w d i).2.2
set_option maxRecDepth 100000
set_option maxRecDepth 10000
theorem check20 {w d h:Int} {u:Nat} {c:List Nat} {l:List Pt} {sc:Nat} {cs:List Ld} {R:V→Prop} (hu:u=1∨c=[]) (hsc:sc=5∨cs=[]) (hcs:cs.length≤900)
  (h70 : ¬ ShOK w d h c→R (iv 70)) (h71:ShOK w d h c → ¬ PtOK l→R (iv 71)) (h8:ShOK w d h c→PtOK l→laid w d c l cs=none→R (iv 8)) (h0:ShOK w d h c→PtOK l → ∀ ps,laid w d c l cs=some ps→R (iv 0)) :
  K0G Tryd.prog glX 20 [.agg [iv w,iv d,iv h,.lst u (nb c)],.lst 4 (ptl l),.lst sc (ldl cs)] R:=by
 refine K0_of_WY0 hmX hcMo 3000 Tryd.func20 (see (p:=K0G Tryd.prog glX 43 [V.agg [iv w,iv d,iv h,V.lst u (nb c)],V.lst 4 (ptl l),V.lst sc (ldl cs)] fun v=>onTup v fun vs=>onCons vs fun u r=>onAgg u fun cs=>onCons cs fun u r_1=>onIntK IntKind.i64 u fun n=>onCons r_1 fun u r_2=>onIntK IntKind.i64 u fun n=>onCons r_2 fun u r_3=>onIntK IntKind.i64 u fun n=>onCons r_3 fun u r_4=>onLst u fun s es=>onCons r_4 fun u r_5=>onLst u fun s es=>onCons r_5 fun u r_6=>onLst u fun s es=>onCons r_6 fun u r_7=>onFmp u (onCons r_7 fun u r_8=>onFmp u (onCons r_8 fun u r_9=>onLst u fun s es=>onCons r_9 fun u r_10=>onLst u fun s es=>onNil r_10 (onCons r fun u r=>onLst u fun s es=>onCons r fun u r=>onIntK IntKind.i64 u fun n=>onNil r (R (iv n)))) fun me=>onCons r_8 fun u r_9=>onLst u fun s es=>onCons r_9 fun u r_10=>onLst u fun s es=>onNil r_10 (onCons r fun u r=>onLst u fun s es=>onCons r fun u r=>onIntK IntKind.i64 u fun n=>onNil r (R (iv n)))) fun me=>onCons r_7 fun u r_8=>onFmp u (onCons r_8 fun u r_9=>onLst u fun s es=>onCons r_9 fun u r_10=>onLst u fun s es=>onNil r_10 (onCons r fun u r=>onLst u fun s es=>onCons r fun u r=>onIntK IntKind.i64 u fun n=>onNil r (R (iv n)))) fun me=>onCons r_8 fun u r_9=>onLst u fun s es=>onCons r_9 fun u r_10=>onLst u fun s es=>onNil r_10 (onCons r fun u r=>onLst u fun s es=>onCons r fun u r=>onIntK IntKind.i64 u fun n=>onNil r (R (iv n)))) (by kernel_rfl) ?_)
 exact composed43 hu hsc (by omega) (fun q=>h70 q) (fun q q' => h71 q q') (fun q q' q'' => h8 q q' q'') (fun q q' ps hps=>h0 q q' ps hps)
def ldP (y:Pc):Ld:=((y.1:Int),y.2.1,y.2.2.1)
theorem tkF_cons (pcs:List Pc) (s:TkS) (x:Ld) (cs:List Ld):tkF pcs s (x::cs)=(tkStep pcs s x).bind fun s1=>tkF pcs s1 cs:=by
 unfold tkF
 rw [List.foldlM_cons]
 rfl
theorem tkF_map {pcs:List Pc} : ∀ {cs:List Ld} {s s' : TkS},tkF pcs s cs=some s' → s'.1.map ldP=s.1.map ldP++cs ∧ ∀ y∈s'.1,y∈s.1∨y∈pcs
 | [],s,s', h=>by
  simp only [tkF,List.foldlM_nil] at h
  cases h
  exact ⟨by simp,fun y hy => .inl hy⟩
 | x::cs,s,s', h=>by
  rw [tkF_cons,Option.bind_eq_some_iff] at h
  obtain ⟨s1,h1,h2⟩:=h
  obtain ⟨g1,g2⟩:=tkF_map h2
  unfold tkStep at h1
  split at h1
  ·cases h1
  ·rename_i y hy
   split at h1
   ·cases h1
    have hsame:=List.find?_some hy
    have hin:=List.mem_of_find?_eq_some hy
    have hld:ldP y=x:=by
     obtain ⟨e1,e2,e3⟩:=of_decide_eq_true hsame
     obtain ⟨a,b,e⟩:=x
     simp only at e1 e2 e3
     unfold ldP
     rw [e1,e2,e3]
    refine ⟨by rw [g1]; simp [hld],fun z hz=>?_⟩
    rcases g2 z hz with q | q
    ·rcases List.mem_append.1 q with q | q
     ·exact .inl q
     ·rw [List.mem_singleton] at q
      subst q
      exact .inr hin
    ·exact .inr q
   ·cases h1
theorem laid_map {w d:Int} {c:List Nat} {l:List Pt} {cs:List Ld} {ps:List Pc} (h:laid w d c l cs=some ps):ps.map ldP=cs ∧ ∀ y∈ps,y∈allPc (bdL w d c) (colN c) l (bdL w d c).length:=by
 unfold laid tkOK at h
 split at h
 ·rename_i s hs
  split at h
  ·cases h
   obtain ⟨h1,h2⟩:=tkF_map hs
   exact ⟨by simpa using h1,fun y hy=>(h2 y hy).resolve_left (by simp)⟩
  ·cases h
 ·cases h
set_option maxRecDepth 100000
set_option maxRecDepth 10000
inductive Rch (ps:List Pc):Nat→Prop
 | base {y:Pc} (h:ps[0]? = some y):Rch ps y.2.2.2.1
 | step {s:Nat} {y:Pc} (h:Rch ps s) (hy:y∈ps) (ht:y.2.2.2.2 &&& s≠0):Rch ps (s ||| y.2.2.2.1)
set_option maxRecDepth 100000
set_option maxRecDepth 10000
def touchB (l:List Pt) (x y:Ld) (i j k:Int):Bool:=hasL l x i j k&&(hasL l y i j (k+1) || hasL l y i j (k - 1))
def touchP (w d h:Int) (l:List Pt) (x y:Ld):Prop := ∃ i j k,(0≤i∧i<w)∧(0≤j∧j<d)∧(0≤k∧k<h)∧touchB l x y i j k=true
set_option maxRecDepth 100000
set_option maxRecDepth 10000
inductive Tch (w d h:Int) (l:List Pt) (cs:List Ld):Nat→Prop
 | base:Tch w d h l cs 0
 | step {i j:Nat} {x y:Ld} (h1:Tch w d h l cs i) (hx:cs[i]? = some x) (hy:cs[j]? = some y) (ht:touchP w d h l x y):Tch w d h l cs j
def cnt (q:List Bool):Nat:=q.countP fun b=>b
theorem uniq_mul {A B a b w:Int} (ha:0≤a∧a<w) (hb:0≤b∧b<w) (h:A * w+a=B * w+b):A=B∧a=b:=by
 rcases Int.lt_trichotomy A B with q | q | q
 ·have:=Int.mul_le_mul_of_nonneg_right (show 1≤B - A by omega) (show 0≤w by omega)
  rw [Int.sub_mul,Int.one_mul] at this
  omega
 ·subst q; exact ⟨rfl,by omega⟩
 ·have:=Int.mul_le_mul_of_nonneg_right (show 1≤A - B by omega) (show 0≤w by omega)
  rw [Int.sub_mul,Int.one_mul] at this
  omega
def insideP (w d h:Int) (t:C3):Prop:=(0≤t.1∧t.1<w)∧(0≤t.2.1∧t.2.1<d)∧0≤t.2.2∧t.2.2<h
theorem cel_ix {w d h:Int} {t:C3} (ht:insideP w d h t) {i:Nat} (hi:(i:Int)=ixI w d t):cel w d i=t:=by
 obtain ⟨a1,a2,a3⟩:=ht
 obtain ⟨b1,b2,b3,_,b5⟩:=cel_pos (show 1≤w by omega) (show 1≤d by omega) i
 unfold ixI at hi
 rw [hi] at b5
 obtain ⟨e1,e2⟩:=uniq_mul b1 a1 b5
 obtain ⟨e3,e4⟩:=uniq_mul b2 a2 e1
 generalize cel w d i=e at *
 obtain ⟨x,y,z⟩:=e
 obtain ⟨x', y', z'⟩:=t
 simp only at *
 rw [e2,e3,e4]
theorem pos_at {w d h:Int} {c:List Nat} (hs:ShOK w d h c) {t:C3} {m:Nat} (hm:pos (bdL w d c) t=some m):atN w d h c t.1 t.2.1 t.2.2=colN c m∧colN c m≠0∧insideP w d h t∧m<(bdL w d c).length:=by
 have hL:=pos_some hm
 have hlt:=(List.getElem?_eq_some_iff.1 hL).1
 obtain ⟨i,g1,g2,g3,g4,gx,gy,gz⟩:=col_at hs hL
 have hw1:=hs.1; have hd1:=hs.2.1; have hh1:=hs.2.2.1
 have sz:=sizes hw1 hd1 hh1
 have hhd:h * d≤4 * 8:=Int.mul_le_mul hh1.2 hd1.2 (by omega) (by omega)
 have ix:=ix_le gx gy gz
 refine ⟨?_,g3,⟨gx,gy,gz⟩,hlt⟩
 unfold atN
 rw [if_pos ⟨gx,gy,gz⟩]
 generalize hA:t.2.2 * d=A at *
 rw [wrapI (n:=A) (by omega) (by omega),wrapI (n:=A+_) (by omega) (by omega)] at g4
 generalize hB:(A+t.2.1) * w=B at *
 rw [wrapI (n:=B) (by omega) (by omega),wrapI (by omega) (by omega)] at g4
 rw [g4,Int.toNat_natCast,List.getD_eq_getElem?_getD,g2]
 rfl
theorem at_pos {w d h:Int} {c:List Nat} (hs:ShOK w d h c) {t:C3} (ht:atN w d h c t.1 t.2.1 t.2.2≠0) : ∃ m,pos (bdL w d c) t=some m:=by
 unfold atN at ht
 split at ht
 ·rename_i hin
  have ix:=ix_le hin.1 hin.2.1 hin.2.2
  have hin' : insideP w d h t:=hin
  have hi:(((t.2.2 * d+t.2.1) * w+t.1).toNat:Int)=ixI w d t:=by unfold ixI; omega
  have hc:=cel_ix hin' hi
  generalize ((t.2.2 * d+t.2.1) * w+t.1).toNat=i at *
  have hlen:i<c.length:=by
   refine Decidable.byContradiction fun q=>ht ?_
   rw [List.getD_eq_getElem?_getD,List.getElem?_eq_none (by omega)]
   rfl
  have hmem:t∈bdL w d c:=by
   unfold bdL celL
   rw [List.mem_map]
   exact ⟨i,mem_fi.2 ⟨hlen,ht⟩,hc⟩
  cases hp:pos (bdL w d c) t with
  | some m=>exact ⟨m,rfl⟩
  | none=>exact absurd hmem (pos_none hp)
 ·exact absurd rfl ht
def cellQ (x y z a:Int) (q:Nat):C3:=(x+(q:Int).tmod a,y+(q:Int).tdiv a,z)
theorem fitF_some {L:List C3} {C:Nat→Nat} {col:Nat} {x y z a:Int} : ∀ {n s:Nat},fitF L C col x y z a n=some s→(∀ q,q<n → ∃ m,pos L (cellQ x y z a q)=some m∧C m=col) ∧ ∀ m,s.testBit m=true ↔ ∃ q,q<n∧pos L (cellQ x y z a q)=some m
 | 0,s,h=>by
  simp only [fitF] at h
  cases h
  exact ⟨fun q hq=>by omega,fun m=>by simp⟩
 | n+1,s,h=>by
  simp only [fitF,Option.bind_eq_some_iff] at h
  obtain ⟨s1,h1,m1,h2,h3⟩:=h
  split at h3
  ·rename_i hc
   cases h3
   obtain ⟨g1,g2⟩:=fitF_some h1
   refine ⟨fun q hq=>?_,fun m=>?_⟩
   ·by_cases e:q=n
    ·subst e; exact ⟨m1,h2,hc⟩
    ·exact g1 q (by omega)
   ·rw [Nat.testBit_or,Bool.or_eq_true,g2 m,Nat.one_shiftLeft,Nat.testBit_two_pow]
    constructor
    ·rintro (⟨q,q1,q2⟩ | e)
     ·exact ⟨q,by omega,q2⟩
     ·exact ⟨n,by omega,by rw [show cellQ x y z a n=(x+(n:Int).tmod a,y+(n:Int).tdiv a,z) from rfl,h2]; simpa using e⟩
    ·rintro ⟨q,q1,q2⟩
     by_cases e:q=n
     ·subst e
      rw [show cellQ x y z a q=(x+(q:Int).tmod a,y+(q:Int).tdiv a,z) from rfl,h2] at q2
      cases q2
      exact .inr (by simp)
     ·exact .inl ⟨q,by omega,q2⟩
  ·cases h3
theorem fitF_of {L:List C3} {C:Nat→Nat} {col:Nat} {x y z a:Int} : ∀ {n:Nat},(∀ q,q<n → ∃ m,pos L (cellQ x y z a q)=some m∧C m=col) → ∃ s,fitF L C col x y z a n=some s
 | 0,h=>⟨0,rfl⟩
 | n+1,h=>by
  obtain ⟨s,hs⟩:=fitF_of (n:=n) (fun q hq=>h q (by omega))
  obtain ⟨m,h1,h2⟩:=h n (by omega)
  refine ⟨s ||| 1 <<< m,?_⟩
  simp only [fitF,hs,Option.bind_some]
  rw [show (x+(n:Int).tmod a,y+(n:Int).tdiv a,z)=cellQ x y z a n from rfl,h1]
  simp [h2]
end Go.Proofs.YtkkgicjioajimaaDoor
