/- A part of the proof. -/
import Derived.ProofKit
import Derived.Deep.Slices
import Derived.Carry
import Derived.OpenShut
import Derived.MakeChecks
import Derived.FnData
import Derived.Deep.Strs
import Derived.Test.YtbionhgjgcpogaaGreatDoorXP5G7
import Derived.Test.YtbionhgjgcpogaaGreatDoorXP5G20
namespace Go.Proofs.YtbionhgjgcpogaaGreatDoor
open Go Go.Proofs.YtbionhgjgcpogaaGreatDoor.Clean
set_option linter.unusedVariables false
set_option linter.unusedSimpArgs false
set_option maxRecDepth 10000
theorem hc5:cf5.ok Tryz.prog:=by
 have h:(cfgG Tryz.prog glX mo5 poP (rtP fN) (inN []) kp5).ok Tryz.prog:=cfgG_ok (rtP_ok fN)
 exact ⟨h.1,h.2⟩
theorem jrow0 {js:List Jt} {i:Nat} {j:Jt} (h:js[i]? = some j):(jtl js)[0+i]? = some (jtr j):=by rw [Nat.zero_add]; simp [jtl,h]
def z0 (j:Jt):Jt:=(j.1,j.2.1,j.2.2.1,0,j.2.2.2.2)
def jz (js:List Jt) (i:Nat):List Jt:=(js.take i).map z0++js.drop i
theorem jz_at {js:List Jt} {i:Nat} {j:Jt} (h:js[i]? = some j):(jz js i)[i]? = some j:=by
 have hi:=(List.getElem?_eq_some_iff.1 h).1
 unfold jz
 rw [List.getElem?_append_right (by rw [List.length_map,List.length_take]; omega),List.length_map,List.length_take,List.getElem?_drop,show i+(i - min i js.length)=i from by omega]
 exact h
theorem jz_set {js:List Jt} {i:Nat} {j:Jt} (h:js[i]? = some j):(jz js i).set i (z0 j)=jz js (i+1):=by
 have hi:=(List.getElem?_eq_some_iff.1 h).1
 unfold jz
 have hd:js.drop i=j::js.drop (i+1):=by rw [List.drop_eq_getElem_cons hi,(List.getElem?_eq_some_iff.1 h).2]
 rw [hd,take_succ' h,List.map_append,List.set_append_right _ _ (by rw [List.length_map,List.length_take]; omega),List.length_map,List.length_take,show i - min i js.length=0 from by omega]
 simp
theorem jz_row {js:List Jt} {i:Nat} {j:Jt} (h:js[i]? = some j):(jtl (jz js i)).set (0+i) (List.take 3 (jtr j)++[V.raw (Value.int IntKind.u8 (0:Int))]++List.drop 4 (jtr j))=jtl (jz js (i+1)):=by
 rw [Nat.zero_add,← jz_set h]
 simp [jtl,List.map_set,jtr,z0,u8]
theorem jz_all {js:List Jt}:jz js js.length=js.map z0:=by simp [jz]
theorem jz_0 (js:List Jt):jz js 0=js:=by simp [jz]
theorem links29' {l:List Kd} {m:List Bk} {G:Nat→List (List V)→Int→Prop} (hl : ∀ q∈l,KdR q) (hll:(l.length:Int)≤1000000) (hml:m.length≤1000000) (hr : ∀ b∈m,BkR b) (hA:OkM l m) (h : ∀ s,(s=5∨lnk (bods l m)=[])→G s (lkl (lnk (bods l m))) 0):K0G Tryz.prog glX 29 [.lst 3 (kdl l),.agg [.lst 6 (bkl m)]] fun v=>onTup v fun vs=>onCons vs fun u r=>onLst u fun s es=>onCons r fun u r=>onIntK IntKind.i64 u fun n=>onNil r (G s es n):=by
 refine links29 hl hll hml hr (fun e he hne=>(he.no hA).elim) (fun _ he=>⟨onTup_tup (onCons_cons (onLst_nil (onCons_cons (onIntK_iv (onNil_nil ?_))))),onTup_tup (onCons_cons (onLst_lst (onCons_cons (onIntK_iv (onNil_nil ?_)))))⟩) (fun _=>onTup_tup (onCons_cons (onLst_lst (onCons_cons (onIntK_iv (onNil_nil (h 5 (.inl rfl))))))))
 ·have:=h 0 (.inr he)
  rw [he] at this
  exact this
 ·have:=h 0 (.inr he)
  rw [he] at this
  exact this
theorem joints32' {l:List Kd} {m:List Bk} {G:List (List V)→Int→Prop} (hl : ∀ q∈l,KdR q) (hll:(l.length:Int)≤1000000) (hml:m.length≤1000000) (hr : ∀ b∈m,BkR b) (hA:OkM l m) (h:G (jtl (jnt (bods l m))) 0):KB Tryz.prog glX 32 [.lst 3 (kdl l),.agg [.lst 6 (bkl m)]] ⟨[],0,[]⟩ fun v=>onTup v fun vs=>onCons vs fun u r=>onLst u fun s es=>guardB (s.beq 5 || s.beq 0) (onCons r fun u r=>onIntK IntKind.i64 u fun n=>onNil r (G es n)):=by
 exact joints32B hl hll hml hr (fun e he hne=>(he.no hA).elim) (fun _=>onTup_tup (onCons_cons (onLst_lst (guardB_mk rfl (onCons_cons (onIntK_iv (onNil_nil h)))))))
theorem groups35' {l:List Kd} {m:List Bk} {G:Nat→List (List V)→Int→Prop} (hl : ∀ q∈l,KdR q) (hll:(l.length:Int)≤1000000) (hml:m.length≤1000000) (hr : ∀ b∈m,BkR b) (hA:OkM l m) (h : ∀ g,GrpP (jnt (bods l m)) m.length g→G 1 (nl g) 0):K0G Tryz.prog glX 35 [.lst 3 (kdl l),.agg [.lst 6 (bkl m)]] fun v=>onTup v fun vs=>onCons vs fun u r=>onLst u fun s es=>onCons r fun u r=>onIntK IntKind.i64 u fun n=>onNil r (G s es n):=by
 exact groups35 hl hll hml hr (fun e he hne=>(he.no hA).elim) (fun _ g hg=>onTup_tup (onCons_cons (onLst_lst (onCons_cons (onIntK_iv (onNil_nil (h g hg)))))))
theorem same31g {s t:Nat} {L:List Lk} {R:V→Prop} (hs:s=5∨L=[]) (ht:t=5∨L=[]) (hl:L.length≤1000000000) (h:R (bv true)):K0G Tryz.prog glX 31 [.lst s (lkl L),.lst t (lkl L)] R:=by
 by_cases e:L=[]
 ·rw [e]; exact same31m h
 ·rw [hs.resolve_right e,ht.resolve_right e]
  exact same31 hl (by rw [dc_t rfl]; exact h)
theorem cells21' {l:List Kd} {b:Bk} {G:List (List V)→Int→Prop} (hl : ∀ q∈l,KdR q) (hll:(l.length:Int)≤1000000) (hr:BkR b) (hK:KindsP l) (hB:BrickP l.length b) (h:G (cll (plc (kOf l b) b.2.2.1.toNat b.2.1)) 0):KB Tryz.prog glX 21 [.lst 3 (kdl l),.agg (bkr b)] ⟨[],0,[]⟩ fun v=>onTup v fun vs=>onCons vs fun u r=>onLst u fun s es=>guardB (s.beq 3 || s.beq 0) (onCons r fun u r=>onIntK IntKind.i64 u fun n=>onNil r (G es n)):=by
 have h0:askE l b 0 := .inr (.inr (.inr ⟨hK,hB,rfl⟩))
 obtain ⟨hP,_,_,_⟩:=putK hK hl hB hr
 refine cells21 hl hll hr (fun e he hne=>(hne (he.uniq h0)).elim) (fun _ q n hq=>onTup_tup (onCons_cons (onLst_lst (guardB_mk rfl (onCons_cons (onIntK_iv (onNil_nil ?_)))))))
 obtain ⟨e1,e2⟩:=hq.same hP
 rw [e1,e2]
 exact h
theorem plc_bdM {q:Kd} {n:Nat} {a c:Cl} (hq:PutP q) (ha:Bd 1000 a) (h:c∈plc q n a):Bd 2000 c:=by
 obtain ⟨x,hx,rfl⟩:=mem_plc.1 h
 have h1:Bd 15 x:=(hq.1 x hx).mono (by omega) (by omega)
 exact (add_bd (tn_bd h1) ha).mono (by omega)
set_option maxHeartbeats 4000000 in
theorem moved5 {l:List Kd} {m:List Bk} {n:Int} {d:Cl} {t s1 s2:Nat} {L:List Lk} {js:List Jt} {g:List Int} {R:V→Prop} (hl : ∀ q∈l,KdR q) (hll:(l.length:Int)≤1000000) (hr : ∀ b∈m,BkR b) (hA:OkM l m) (hn:n=(t:Int)) (ht:t<24) (hd:Bd 1000 d) (hX:OkM l (m.map (mvB t d))) (hrX : ∀ b∈m.map (mvB t d),BkR b) (hs1:s1=5∨L=[]) (hs2:s2=5∨L=[]) (hL:L.length≤1000000000) (hj : ∀ j∈js,AxP t j) (hjl:js.length≤1000000000) (hgl:g.length≤1000000) (h:R (bv true)):La 0 [(0:Tmp),(2:Tmp),(5:Tmp),(7:Tmp),(9:Tmp),(10:Tmp),(12:Tmp),(14:Tmp),(16:Tmp),(18:Tmp),(20:Tmp),(22:Tmp),(139:Tmp),(140:Tmp)] (WY Tryz.prog cf5 2984 (Env.mk (Bs.mk 0 []) 0 none 277 5 0) (cdAt [1,1,1,1,1,1,1,1,1,1,1,1,0,1,0,0] (bodyOf Tryz.f5))) (Qblk 0 (Qthen (WY Tryz.prog cf5 2987 (Env.mk (Bs.mk 0 []) 0 none 277 5 0) (cdAt [1,1,1,1,1,1,1,1,1,1,1,1,1] (bodyOf Tryz.f5)) (QendX Tryz.prog Tryz.f5 fun v h=>R (frzW h v))) (QendX Tryz.prog Tryz.f5 fun v h=>R (frzW h v)))) (sh5a l m n d (m.map (mvB t d)) s1 L s2 L js (js.map (mvJ t)) js.length js.length g g js.length 0):=by
 obtain ⟨p,hp⟩ : ∃ p,p=js.length:=⟨_,rfl⟩
 rw [← hp]
 obtain ⟨x,hx⟩ : ∃ x,x=m.map (mvB t d):=⟨_,rfl⟩
 rw [← hx] at hX hrX ⊢
 have hmp:(m.map (mvB t d)).length=m.length:=List.length_map ..
 have hks:(js.map (mvJ t)).length=p:=by rw [List.length_map,hp]
 have hMv:MvP l m t d:=⟨ht,fun b hb=>by
  obtain ⟨h1,_,_,_⟩:=putK hA.ask.kinds hl (hA.ask.all b hb) (hr b hb)
  exact ⟨h1.put,h1.t24⟩⟩
 refine La.of (σ:=Nat) (fun i=>sh5a l m n d x s1 L s2 L (jz js i) (jz (js.map (mvJ t)) i) p p g g p i) (fun i=>i≤p) (fun i=>p - i) 0 (by rw [jz_0,jz_0]) (by omega) ?_
 rintro i g1 J hJ
 obtain ⟨ja,hja⟩ : ∃ ja,ja=jz js i:=⟨_,rfl⟩
 obtain ⟨ka,hka⟩ : ∃ ka,ka=jz (js.map (mvJ t)) i:=⟨_,rfl⟩
 rw [← hja,← hka]
 refine see (p:=ifB (decide ((↑i:Int)<(↑p:Int))) (need (i<p) (onSome (jtl ja)[0+i]? fun row=>onSome row[3]? fun v=>onIntK IntKind.u8 v fun n_1=>need (i<p) (onSome (jtl ka)[0+i]? fun row=>onSome row[3]? fun v=>onIntK IntKind.u8 v fun n_2=>ifB (!(n_1==(0:Int))==(n_2==(0:Int))) (R (bv false)) (need (i<p) (onSome (jtl ja)[0+i]? fun row=>onSome row[3]? fun v=>onIntK IntKind.u8 v fun n_3=>ifB (decide (n_3 > (0:Int))) (need (i<p) (onSome (jtl ja)[0+i]? fun row=>onSome row[3]? fun v=>onIntK IntKind.u8 v fun n_4=>K0G Tryz.prog glX 40 [iv (IntKind.i64.wrap (IntKind.i64.wrap ((2:Int) * IntKind.i64.wrap n_4) - (2:Int))),iv n] fun v=>onTup v fun vs=>onCons vs fun u r=>onIntK IntKind.i64 u fun n_5=>onCons r fun u r=>onIntK IntKind.i64 u fun n_6=>onNil r (ifB (n_6 != (0:Int)) (R (bv false)) (need (i<p) (onSome (jtl ka)[0+i]? fun row=>onSome row[3]? fun v=>onIntK IntKind.u8 v fun n_7=>ifB (IntKind.i64.wrap (n_5.tdiv (2:Int)) != IntKind.i64.wrap (IntKind.i64.wrap n_7 - (1:Int))) (R (bv false)) (need (i<p) (onSome (jtl ja)[0+i]? fun row=>guardB ((3+1).ble row.length) (need (i<p) (onSome (jtl ka)[0+i]? fun row_1=>guardB ((3+1).ble row_1.length) (J (St.mk (mkT [(0,V.lst 3 (kdl l)),(2,iv n),(5,V.ptr (Id.p 0) 0 0),(7,V.ptr (Id.p 1) 0 0),(9,bv true),(10,V.ptr (Id.p 2) 0 0),(12,V.lst s1 (lkl L)),(14,V.lst s2 (lkl L)),(16,V.sl (Id.p 3) 0 p),(18,V.sl (Id.p 4) 0 p),(20,V.lst 1 (nl g)),(22,V.lst 1 (nl g)),(139,iv (↑p:Int)),(140,iv (IntKind.i64.wrap ((↑i:Int)+(1:Int))))]) (Hp.mk [(0,O.rows 1 false [[V.lst 6 (bkl m)]]),(1,O.rows 3 false [[iv d.1,iv d.2.1,iv d.2.2]]),(2,O.rows 1 false [[V.lst 6 (bkl x)]]),(3,O.rows 5 true ((jtl ja).set (0+i) (List.take 3 row++[V.raw (Value.int IntKind.u8 (0:Int))]++List.drop 4 row))),(4,O.rows 5 true ((jtl ka).set (0+i) (List.take 3 row_1++[V.raw (Value.int IntKind.u8 (0:Int))]++List.drop 4 row_1)))] 5 [])))))))))))) (need (i<p) (onSome (jtl ja)[0+i]? fun row=>guardB ((3+1).ble row.length) (need (i<p) (onSome (jtl ka)[0+i]? fun row_1=>guardB ((3+1).ble row_1.length) (J (St.mk (mkT [(0,V.lst 3 (kdl l)),(2,iv n),(5,V.ptr (Id.p 0) 0 0),(7,V.ptr (Id.p 1) 0 0),(9,bv true),(10,V.ptr (Id.p 2) 0 0),(12,V.lst s1 (lkl L)),(14,V.lst s2 (lkl L)),(16,V.sl (Id.p 3) 0 p),(18,V.sl (Id.p 4) 0 p),(20,V.lst 1 (nl g)),(22,V.lst 1 (nl g)),(139,iv (↑p:Int)),(140,iv (IntKind.i64.wrap ((↑i:Int)+(1:Int))))]) (Hp.mk [(0,O.rows 1 false [[V.lst 6 (bkl m)]]),(1,O.rows 3 false [[iv d.1,iv d.2.1,iv d.2.2]]),(2,O.rows 1 false [[V.lst 6 (bkl x)]]),(3,O.rows 5 true ((jtl ja).set (0+i) (List.take 3 row++[V.raw (Value.int IntKind.u8 (0:Int))]++List.drop 4 row))),(4,O.rows 5 true ((jtl ka).set (0+i) (List.take 3 row_1++[V.raw (Value.int IntKind.u8 (0:Int))]++List.drop 4 row_1)))] 5 [])))))))))))) (La 0 [(0:Tmp),(2:Tmp),(5:Tmp),(7:Tmp),(9:Tmp),(10:Tmp),(12:Tmp),(14:Tmp),(16:Tmp),(18:Tmp),(20:Tmp),(22:Tmp),(200:Tmp),(201:Tmp)] (WY Tryz.prog cf5 2983 (Env.mk (Bs.mk 0 []) 0 none 277 5 2) (cdAt [1,1,1,1,1,1,1,1,1,1,1,1,1,0,1,0,0] (bodyOf Tryz.f5))) (Qblk 2 (Qthen (WY Tryz.prog cf5 2986 (Env.mk (Bs.mk 0 []) 0 none 277 5 0) (cdAt [1,1,1,1,1,1,1,1,1,1,1,1,1,1] (bodyOf Tryz.f5)) (QendX Tryz.prog Tryz.f5 fun v h=>R (frzW h v))) (QendX Tryz.prog Tryz.f5 fun v h=>R (frzW h v)))) (St.mk (mkT [(0,V.lst 3 (kdl l)),(2,iv n),(5,V.ptr (Id.p 0) 0 0),(7,V.ptr (Id.p 1) 0 0),(9,bv true),(10,V.ptr (Id.p 2) 0 0),(12,V.lst s1 (lkl L)),(14,V.lst s2 (lkl L)),(16,V.sl (Id.p 3) 0 p),(18,V.sl (Id.p 4) 0 p),(20,V.lst 1 (nl g)),(22,V.lst 1 (nl g)),(200,iv (↑(bkl m).length:Int)),(201,iv (0:Int))]) (Hp.mk [(0,O.rows 1 false [[V.lst 6 (bkl m)]]),(1,O.rows 3 false [[iv d.1,iv d.2.1,iv d.2.2]]),(2,O.rows 1 false [[V.lst 6 (bkl x)]]),(3,O.rows 5 true (jtl ja)),(4,O.rows 5 true (jtl ka))] 5 [])))) (by kernel_rfl) ?_
 refine ifB_mk (fun e=>?_) (fun e=>?_)
 ·have hi:i<p:=by have:=of_decide_eq_true e; omega
  obtain ⟨j,hjj⟩:=getI (l:=js) (k:=i) (by omega)
  have hkj:(js.map (mvJ t))[i]? = some (mvJ t j):=by rw [List.getElem?_map,hjj]; rfl
  have r1:(jtl ja)[0+i]? = some (jtr j):=jrow0 (hja ▸ jz_at hjj)
  have r2:(jtl ka)[0+i]? = some (jtr (mvJ t j)):=jrow0 (hka ▸ jz_at hkj)
  have e1:(jtl ja).set (0+i) (List.take 3 (jtr j)++[V.raw (Value.int IntKind.u8 (0:Int))]++List.drop 4 (jtr j))=jtl (jz js (i+1)):=hja ▸ jz_row hjj
  have e2:(jtl ka).set (0+i) (List.take 3 (jtr (mvJ t j))++[V.raw (Value.int IntKind.u8 (0:Int))]++List.drop 4 (jtr (mvJ t j)))=jtl (jz (js.map (mvJ t)) (i+1)):=hka ▸ jz_row hkj
  have hax:=hj j (mem_at hjj)
  have next:=hJ (i+1) hi (by omega)
  refine need_mk ⟨hi,onSome_mk r1 (onSome_mk (x:=u8 j.2.2.2.1) rfl (onIntK_u8 (need_mk ⟨hi,onSome_mk r2 (onSome_mk (x:=u8 (mvX t j.2.2.2.1)) rfl (onIntK_u8 ?_))⟩)))⟩
  rcases hax with ⟨x1,x2⟩ | ⟨x1,x2,x3,x4,x5⟩
  ·rw [x2,x1]
   refine ifB_f rfl (need_mk ⟨hi,onSome_mk r1 (onSome_mk (x:=u8 j.2.2.2.1) rfl (onIntK_u8 ?_))⟩)
   rw [x1]
   refine ifB_f rfl (need_mk ⟨hi,onSome_mk r1 (guardB_mk rfl (need_mk ⟨hi,onSome_mk r2 (guardB_mk rfl ?_)⟩))⟩)
   rw [e1,e2,wr1i hi (by omega)]
   exact next
  ·have b1:(j.2.2.2.1==(0:Int))=false:=by simp; omega
   have b2:(mvX t j.2.2.2.1==(0:Int))=false:=by simp; omega
   rw [b1,b2]
   refine ifB_f rfl (need_mk ⟨hi,onSome_mk r1 (onSome_mk (x:=u8 j.2.2.2.1) rfl (onIntK_u8 (ifB_t (by simp; omega) (need_mk ⟨hi,onSome_mk r1 (onSome_mk (x:=u8 j.2.2.2.1) rfl (onIntK_u8 ?_))⟩))))⟩)
   rw [wr (n:=j.2.2.2.1) (by omega) (by omega),wr (n:=(2:Int) * j.2.2.2.1) (by omega) (by omega),wr (n:=(2:Int) * j.2.2.2.1 - 2) (by omega) (by omega),hn]
   obtain ⟨u,hu⟩ : ∃ u:Nat,2 * j.2.2.2.1 - 2=(u:Int):=⟨(2 * j.2.2.2.1 - 2).toNat,by omega⟩
   rw [hu] at x5 ⊢
   have hpt:=(stp_pt ht (d:=(u:Int)) (by omega) (by omega)).2.2
   refine direction40 (d:=u) ht (by omega) (onTup_tup (onCons_cons (onIntK_iv (onCons_cons (onIntK_iv (onNil_nil (ifB_f rfl ?_)))))))
   refine need_mk ⟨hi,onSome_mk r2 (onSome_mk (x:=u8 (mvX t j.2.2.2.1)) rfl (onIntK_u8 ?_))⟩
   have td:(pt t (u:Int)).tdiv (2:Int)=pt t (u:Int) / 2:=Int.tdiv_eq_ediv_of_nonneg hpt.1
   rw [td,wr (n:=pt t (u:Int) / 2) (by omega) (by omega),wr (n:=mvX t j.2.2.2.1) (by omega) (by omega),wr (n:=mvX t j.2.2.2.1 - 1) (by omega) (by omega),x5]
   refine ifB_f (by simp) (need_mk ⟨hi,onSome_mk r1 (guardB_mk rfl (need_mk ⟨hi,onSome_mk r2 (guardB_mk rfl ?_)⟩))⟩)
   rw [e1,e2,wr1i hi (by omega),← hn]
   exact next
 ·have hi:i=p:=by have:=of_decide_eq_false e; omega
  have f1:ja=js.map z0:=by rw [hja,hi,hp]; exact jz_all
  have f2:ka=js.map z0:=by
   rw [hka,hi,← hks,jz_all,List.map_map]
   rfl
  have f3:ja.length=p:=by rw [f1,List.length_map,hp]
  have f4:ka.length=p:=by rw [f2,List.length_map,hp]
  clear hJ
  rw [bkl_length]
  obtain ⟨c,hc⟩ : ∃ c,c=m.length:=⟨_,rfl⟩
  have hc40:c≤40:=hc ▸ hA.ask.few
  rw [← hc]
  refine La.of (σ:=Nat) (fun i=>sh5b l m n d x s1 L s2 L ja ka p p g g c i) (fun i=>i≤c) (fun i=>c - i) 0 (by kernel_rfl) (by omega) ?_
  clear hja hka hi e g1 i
  rintro i g1 J hJ
  refine see (p:=ifB (decide ((↑i:Int)<(↑c:Int))) (onSome (bkl m)[i]? fun row=>onCons (List.drop 0 row) fun u r=>onIntK IntKind.i64 u fun n_1=>onCons r fun u r=>onIntK IntKind.i64 u fun n_2=>onCons r fun u r=>onIntK IntKind.i64 u fun n_3=>onCons r fun u r=>onIntK IntKind.i64 u fun n_4=>onCons r fun u r=>onIntK IntKind.u8 u fun n_5=>onCons r fun u r=>onIntK IntKind.u8 u fun n_6=>KB Tryz.prog glX 21 [V.lst 3 (kdl l),V.agg [iv n_1,iv n_2,iv n_3,iv n_4,V.raw (Value.int IntKind.u8 n_5),V.raw (Value.int IntKind.u8 n_6)]] (Hp.mk [] 0 []) fun v=>onTup v fun vs=>onCons vs fun u r=>onLst u fun s es=>guardB (s.beq 3 || s.beq 0) (onCons r fun u r=>onIntK IntKind.i64 u fun n_7=>onNil r (onSome (bkl x)[i]? fun row=>onCons (List.drop 0 row) fun u r=>onIntK IntKind.i64 u fun n_8=>onCons r fun u r=>onIntK IntKind.i64 u fun n_9=>onCons r fun u r=>onIntK IntKind.i64 u fun n_10=>onCons r fun u r=>onIntK IntKind.i64 u fun n_11=>onCons r fun u r=>onIntK IntKind.u8 u fun n_12=>onCons r fun u r=>onIntK IntKind.u8 u fun n_13=>KB Tryz.prog glX 21 [V.lst 3 (kdl l),V.agg [iv n_8,iv n_9,iv n_10,iv n_11,V.raw (Value.int IntKind.u8 n_12),V.raw (Value.int IntKind.u8 n_13)]] (Hp.mk [] 0 []) fun v=>onTup v fun vs=>onCons vs fun u r=>onLst u fun s es_1=>guardB (s.beq 3 || s.beq 0) (onCons r fun u r=>onIntK IntKind.i64 u fun n_14=>onNil r (ifB (n_7 != (0:Int)) (R (bv false)) (ifB (n_14 != (0:Int)) (R (bv false)) (ifB ((↑(sub es 0 es.length).length:Int) != (↑(sub es_1 0 es_1.length).length:Int)) (R (bv false)) (La 0 [(0:Tmp),(2:Tmp),(5:Tmp),(7:Tmp),(9:Tmp),(10:Tmp),(12:Tmp),(14:Tmp),(16:Tmp),(18:Tmp),(20:Tmp),(22:Tmp),(30:Tmp),(200:Tmp),(201:Tmp),(237:Tmp),(238:Tmp),(239:Tmp)] (WY Tryz.prog cf5 2972 (Env.mk (Bs.mk 0 []) 0 none 277 5 4) (cdAt [1,1,1,1,1,1,1,1,1,1,1,1,1,0,1,0,0,1,1,0,0,1,1,1,1,1,0,0] (bodyOf Tryz.f5))) (Qblk 4 (Qblk 3 (Qthen (WY Tryz.prog cf5 2980 (Env.mk (Bs.mk 0 []) 0 none 277 5 2) (cdAt [1,1,1,1,1,1,1,1,1,1,1,1,1,0,1,0,0,1,1,1] (bodyOf Tryz.f5)) (Qla 0 [(0:Tmp),(2:Tmp),(5:Tmp),(7:Tmp),(9:Tmp),(10:Tmp),(12:Tmp),(14:Tmp),(16:Tmp),(18:Tmp),(20:Tmp),(22:Tmp),(200:Tmp),(201:Tmp)] J (Qblk 2 (Qthen (WY Tryz.prog cf5 2986 (Env.mk (Bs.mk 0 []) 0 none 277 5 0) (cdAt [1,1,1,1,1,1,1,1,1,1,1,1,1,1] (bodyOf Tryz.f5)) (QendX Tryz.prog Tryz.f5 fun v h=>R (frzW h v))) (QendX Tryz.prog Tryz.f5 fun v h=>R (frzW h v)))))) (Qla 0 [(0:Tmp),(2:Tmp),(5:Tmp),(7:Tmp),(9:Tmp),(10:Tmp),(12:Tmp),(14:Tmp),(16:Tmp),(18:Tmp),(20:Tmp),(22:Tmp),(200:Tmp),(201:Tmp)] J (Qblk 2 (Qthen (WY Tryz.prog cf5 2986 (Env.mk (Bs.mk 0 []) 0 none 277 5 0) (cdAt [1,1,1,1,1,1,1,1,1,1,1,1,1,1] (bodyOf Tryz.f5)) (QendX Tryz.prog Tryz.f5 fun v h=>R (frzW h v))) (QendX Tryz.prog Tryz.f5 fun v h=>R (frzW h v)))))))) (St.mk (mkT [(0,V.lst 3 (kdl l)),(2,iv n),(5,V.ptr (Id.p 0) 0 0),(7,V.ptr (Id.p 1) 0 0),(9,bv true),(10,V.ptr (Id.p 2) 0 0),(12,V.lst s1 (lkl L)),(14,V.lst s2 (lkl L)),(16,V.sl (Id.p 3) 0 p),(18,V.sl (Id.p 4) 0 p),(20,V.lst 1 (nl g)),(22,V.lst 1 (nl g)),(30,V.lst 3 (sub es_1 0 es_1.length)),(200,iv (↑c:Int)),(201,iv (↑i:Int)),(237,V.lst 3 (sub es 0 es.length)),(238,iv (↑(sub es 0 es.length).length:Int)),(239,iv (0:Int))]) (Hp.mk [(0,O.rows 1 false [[V.lst 6 (bkl m)]]),(1,O.rows 3 false [[iv d.1,iv d.2.1,iv d.2.2]]),(2,O.rows 1 false [[V.lst 6 (bkl x)]]),(3,O.rows 5 true (jtl ja)),(4,O.rows 5 true (jtl ka))] 5 [])))))))))) (K0G Tryz.prog glX 31 [V.lst s1 (lkl L),V.lst s2 (lkl L)] fun v=>onBool v fun b=>ifB b (K0G Tryz.prog glX 34 [V.lst 5 (sub (jtl ja) 0 p),V.lst 5 (sub (jtl ka) 0 p)] fun v=>onBool v fun b=>ifB b (K0G Tryz.prog glX 20 [V.lst 1 (nl g),V.lst 1 (nl g)] fun v=>onBool v fun b=>R (bv b)) (R (bv false))) (R (bv false)))) (by kernel_rfl) ?_
  refine ifB_mk (fun e=>?_) (fun e=>?_)
  ·have hi:i<c:=by have:=of_decide_eq_true e; omega
   obtain ⟨b,hb⟩:=getI (l:=m) (k:=i) (by omega)
   have hbm:=mem_at hb
   have hbx:x[i]? = some (mvB t d b):=by rw [hx,List.getElem?_map,hb]; rfl
   obtain ⟨hP,_,hat,_⟩:=putK hA.ask.kinds hl (hA.ask.all b hbm) (hr b hbm)
   refine bel hb (cells21' hl hll (hr b hbm) hA.ask.kinds (hA.ask.all b hbm) ?_)
   refine bel hbx (cells21' (b:=mvB t d b) hl hll (hrX _ (mem_at hbx)) hX.ask.kinds (hX.ask.all _ (mem_at hbx)) ?_)
   rw [sub_cl,sub_cl]
   obtain ⟨cc,hcc⟩ : ∃ cc,cc=plc (kOf l b) b.2.2.1.toNat b.2.1:=⟨_,rfl⟩
   obtain ⟨dd,hdd⟩ : ∃ dd,dd=plc (kOf l (mvB t d b)) (mvB t d b).2.2.1.toNat (mvB t d b).2.1:=⟨_,rfl⟩
   rw [← hcc,← hdd]
   have hk:kOf l (mvB t d b)=kOf l b:=rfl
   have l1:cc.length=(kOf l b).1.length:=by rw [hcc,plc_length]
   have l2:dd.length=(kOf l b).1.length:=by rw [hdd,plc_length,hk]
   have l30:=hP.put.2.1
   refine ifB_f rfl (ifB_f rfl (ifB_f (by rw [cll_length,cll_length,l1,l2]; simp) ?_))
   rw [cll_length]
   obtain ⟨w,hw⟩ : ∃ w,w=cc.length:=⟨_,rfl⟩
   rw [← hw]
   refine La.of (σ:=Nat) (fun k=>sh5c l m n d x s1 L s2 L ja ka p p g g c i dd cc w k) (fun k=>k≤w) (fun k=>w - k) 0 (by kernel_rfl) (by omega) ?_
   rintro k k1 I hI
   obtain ⟨e,he⟩ : ∃ e,e=w:=⟨_,rfl⟩
   rw [← he]
   refine see (p:=ifB (decide ((↑k:Int)<(↑e:Int))) (onSome (cll cc)[k]? fun row=>onCons (List.drop 0 row) fun u r=>onIntK IntKind.i64 u fun n_1=>onCons r fun u r=>onIntK IntKind.i64 u fun n_2=>onCons r fun u r=>onIntK IntKind.i64 u fun n_3=>K0G Tryz.prog glX 41 [V.agg [iv n_1,iv n_2,iv n_3],iv n] fun v=>onTup v fun vs=>onCons vs fun u r=>onAgg u fun cs=>onCons cs fun u r_1=>onIntK IntKind.i64 u fun n_4=>onCons r_1 fun u r_2=>onIntK IntKind.i64 u fun n_5=>onCons r_2 fun u r_3=>onIntK IntKind.i64 u fun n_6=>onNil r_3 (onCons r fun u r=>onIntK IntKind.i64 u fun n_7=>onNil r (ifB (n_7 != (0:Int)) (R (bv false)) (K0G Tryz.prog glX 43 [V.agg [iv n_4,iv n_5,iv n_6],V.agg [iv d.1,iv d.2.1,iv d.2.2]] fun v=>onAgg v fun cs=>onCons cs fun u r=>onIntK IntKind.i64 u fun n_8=>onCons r fun u r=>onIntK IntKind.i64 u fun n_9=>onCons r fun u r=>onIntK IntKind.i64 u fun n_10=>onNil r (K0G Tryz.prog glX 42 [V.lst 3 (cll dd),V.agg [iv n_8,iv n_9,iv n_10]] fun v=>onBool v fun b=>ifB (!b) (R (bv false)) (I (St.mk (mkT [(0,V.lst 3 (kdl l)),(2,iv n),(5,V.ptr (Id.p 0) 0 0),(7,V.ptr (Id.p 1) 0 0),(9,bv true),(10,V.ptr (Id.p 2) 0 0),(12,V.lst s1 (lkl L)),(14,V.lst s2 (lkl L)),(16,V.sl (Id.p 3) 0 p),(18,V.sl (Id.p 4) 0 p),(20,V.lst 1 (nl g)),(22,V.lst 1 (nl g)),(30,V.lst 3 (cll dd)),(200,iv (↑c:Int)),(201,iv (↑i:Int)),(237,V.lst 3 (cll cc)),(238,iv (↑e:Int)),(239,iv (IntKind.i64.wrap ((↑k:Int)+(1:Int))))]) (Hp.mk [(0,O.rows 1 false [[V.lst 6 (bkl m)]]),(1,O.rows 3 false [[iv d.1,iv d.2.1,iv d.2.2]]),(2,O.rows 1 false [[V.lst 6 (bkl x)]]),(3,O.rows 5 true (jtl ja)),(4,O.rows 5 true (jtl ka))] 5 [])))))))) (J (St.mk (mkT [(0,V.lst 3 (kdl l)),(2,iv n),(5,V.ptr (Id.p 0) 0 0),(7,V.ptr (Id.p 1) 0 0),(9,bv true),(10,V.ptr (Id.p 2) 0 0),(12,V.lst s1 (lkl L)),(14,V.lst s2 (lkl L)),(16,V.sl (Id.p 3) 0 p),(18,V.sl (Id.p 4) 0 p),(20,V.lst 1 (nl g)),(22,V.lst 1 (nl g)),(200,iv (↑c:Int)),(201,iv (IntKind.i64.wrap ((↑i:Int)+(1:Int))))]) (Hp.mk [(0,O.rows 1 false [[V.lst 6 (bkl m)]]),(1,O.rows 3 false [[iv d.1,iv d.2.1,iv d.2.2]]),(2,O.rows 1 false [[V.lst 6 (bkl x)]]),(3,O.rows 5 true (jtl ja)),(4,O.rows 5 true (jtl ka))] 5 [])))) (by kernel_rfl) ?_
   refine ifB_mk (fun e' => ?_) (fun e' => ?_)
   ·have hk1:k<w:=by have:=of_decide_eq_true e'; omega
    obtain ⟨y,hy⟩:=getI (l:=cc) (k:=k) (by omega)
    have hym:=mem_at hy
    have hyb:Bd 2000 y:=plc_bdM hP.put hat (hcc ▸ hym)
    have hy2:y∈plc (kOf l b) b.2.2.1.toNat b.2.1:=hcc ▸ hym
    have hmem:addC (tn t y) d∈dd:=by
     rw [hdd]
     exact ((bod_mv hMv hbm).2 _).2 ⟨y,hy2,rfl⟩
    refine cel hy ?_
    rw [hn]
    refine turn41 ht hyb (onTup_tup (onCons_cons (onAgg_agg (onCons_cons (onIntK_iv (onCons_cons (onIntK_iv (onCons_cons (onIntK_iv (onNil_nil (onCons_cons (onIntK_iv (onNil_nil (ifB_f rfl ?_))))))))))))))
    refine plus43 (a:=tn t y) (b:=d) ((tn_bd hyb).mono (by omega)) (hd.mono (by omega)) (onAgg_agg (onCons_cons (onIntK_iv (onCons_cons (onIntK_iv (onCons_cons (onIntK_iv (onNil_nil ?_))))))))
    refine has42 (c:=addC (tn t y) d) (by omega) (onBool_bv (ifB_f (by rw [dc_t hmem]; rfl) ?_))
    rw [wr1i hk1 (by omega),← hn,he]
    exact hI (k+1) hk1 (by omega)
   ·rw [wr1i hi (by omega)]
    exact hJ (i+1) hi (by omega)
  ·refine same31g hs1 hs2 hL (onBool_bv (ifB_t rfl ?_))
   rw [show sub (jtl ja) 0 p=jtl ja from by rw [sub,List.drop_zero,List.take_of_length_le (by rw [jtl_length]; omega)],show sub (jtl ka) 0 p=jtl ka from by rw [sub,List.drop_zero,List.take_of_length_le (by rw [jtl_length]; omega)]]
   refine same34 (f2.trans f1.symm) (by omega) (onBool_bv (ifB_t rfl ?_))
   refine same20 hgl (onBool_bv ?_)
   rw [dc_t rfl]
   exact h
set_option maxHeartbeats 1000000 in
theorem law5 {l:List Kd} {m:List Bk} {n:Int} {d:Cl} {R:V→Prop} (hlk : ∀ q∈l, ∀ x∈q.2.1,KnR x) (hr : ∀ b∈m,BkR b) (h:R (bv true)):K0G Tryz.prog glX 5 [.lst 3 (kdl l),.agg [.lst 6 (bkl m)],iv n,.agg (clr d)] R:=by
 refine K0_by hmX hc5 3000 Tryz.func5 (p:=K0G Tryz.prog glX 37 [] fun v=>onBool v fun b=>K0G Tryz.prog glX 12 [V.lst 3 (kdl l),V.agg [V.lst 6 (bkl m)]] fun v=>onBool v fun b_1=>ifB b_1 (R (bv b)) (K0G Tryz.prog glX 38 [V.lst 3 (kdl l),V.agg [V.lst 6 (bkl m)],iv n,V.agg [iv d.1,iv d.2.1,iv d.2.2]] fun v=>onTup v fun vs=>onCons vs fun u r=>onAgg u fun cs=>onCons cs fun u r_1=>onLst u fun s es=>onNil r_1 (onCons r fun u r=>onIntK IntKind.i64 u fun n_1=>onNil r (ifB (n_1 != (0:Int)) (ifB b (R (bv ((↑es.length:Int)==(0:Int)))) (R (bv false))) (K0G Tryz.prog glX 29 [V.lst 3 (kdl l),V.agg [V.lst 6 (bkl m)]] fun v=>onTup v fun vs=>onCons vs fun u r=>onLst u fun s_1 es_1=>onCons r fun u r=>onIntK IntKind.i64 u fun n_2=>onNil r (K0G Tryz.prog glX 29 [V.lst 3 (kdl l),V.agg [V.lst s es]] fun v=>onTup v fun vs=>onCons vs fun u r=>onLst u fun s_2 es_2=>onCons r fun u r=>onIntK IntKind.i64 u fun n_3=>onNil r (KB Tryz.prog glX 32 [V.lst 3 (kdl l),V.agg [V.lst 6 (bkl m)]] (Hp.mk [] 0 []) fun v=>onTup v fun vs=>onCons vs fun u r=>onLst u fun s_3 es_3=>guardB (s_3.beq 5 || s_3.beq 0) (onCons r fun u r=>onIntK IntKind.i64 u fun n_4=>onNil r (KB Tryz.prog glX 32 [V.lst 3 (kdl l),V.agg [V.lst s es]] (Hp.mk [] 0 []) fun v=>onTup v fun vs=>onCons vs fun u r=>onLst u fun s_4 es_4=>guardB (s_4.beq 5 || s_4.beq 0) (onCons r fun u r=>onIntK IntKind.i64 u fun n_5=>onNil r (K0G Tryz.prog glX 35 [V.lst 3 (kdl l),V.agg [V.lst 6 (bkl m)]] fun v=>onTup v fun vs=>onCons vs fun u r=>onLst u fun s_5 es_5=>onCons r fun u r=>onIntK IntKind.i64 u fun n_6=>onNil r (K0G Tryz.prog glX 35 [V.lst 3 (kdl l),V.agg [V.lst s es]] fun v=>onTup v fun vs=>onCons vs fun u r=>onLst u fun s_6 es_6=>onCons r fun u r=>onIntK IntKind.i64 u fun n_7=>onNil r (ifB (n_2 != (0:Int)) (R (bv false)) (ifB (n_3 != (0:Int)) (R (bv false)) (ifB (n_4 != (0:Int)) (R (bv false)) (ifB (n_5 != (0:Int)) (R (bv false)) (ifB (n_6 != (0:Int)) (R (bv false)) (ifB (n_7 != (0:Int)) (R (bv false)) (K0G Tryz.prog glX 39 [V.lst 3 (kdl l),V.agg [V.lst s es]] fun v=>onIntK IntKind.i64 v fun n_8=>ifB (n_8 != (0:Int)) (R (bv false)) (ifB ((↑es_3.length:Int) != (↑es_4.length:Int)) (R (bv false)) (ifB ((↑es.length:Int) != (↑(bkl m).length:Int)) (R (bv false)) (La 0 [(0:Tmp),(2:Tmp),(5:Tmp),(7:Tmp),(9:Tmp),(10:Tmp),(12:Tmp),(14:Tmp),(16:Tmp),(18:Tmp),(20:Tmp),(22:Tmp),(139:Tmp),(140:Tmp)] (WY Tryz.prog cf5 2984 (Env.mk (Bs.mk 0 []) 0 none 277 5 0) (cdAt [1,1,1,1,1,1,1,1,1,1,1,1,0,1,0,0] (bodyOf Tryz.f5))) (Qblk 0 (Qthen (WY Tryz.prog cf5 2987 (Env.mk (Bs.mk 0 []) 0 none 277 5 0) (cdAt [1,1,1,1,1,1,1,1,1,1,1,1,1] (bodyOf Tryz.f5)) (QendX Tryz.prog Tryz.f5 fun v h=>R (frzW h v))) (QendX Tryz.prog Tryz.f5 fun v h=>R (frzW h v)))) (St.mk (mkT [(0,V.lst 3 (kdl l)),(2,iv n),(5,V.ptr (Id.p 0) 0 0),(7,V.ptr (Id.p 1) 0 0),(9,bv b),(10,V.ptr (Id.p 2) 0 0),(12,V.lst s_1 es_1),(14,V.lst s_2 es_2),(16,V.sl (Id.p 3) 0 es_3.length),(18,V.sl (Id.p 4) 0 es_4.length),(20,V.lst s_5 es_5),(22,V.lst s_6 es_6),(139,iv (↑es_3.length:Int)),(140,iv (0:Int))]) (Hp.mk [(0,O.rows 1 false [[V.lst 6 (bkl m)]]),(1,O.rows 3 false [[iv d.1,iv d.2.1,iv d.2.2]]),(2,O.rows 1 false [[V.lst s es]]),(3,O.rows 5 true es_3),(4,O.rows 5 true es_4)] 5 [])))))))))))))))))))))))) (by kernel_rfl) ?_
 refine K0G.mono (show K0G Tryz.prog glX 37 [] fun v=>v=bv true from t37) (fun v hv=>?_)
 subst hv
 refine onBool_bv (great12 (onBool_bv (ifB_mk (fun _=>h) (fun c1=>?_))))
 obtain ⟨hl20,hl⟩:=greatK (dc_false c1) hlk
 have hm45:=great45 (dc_false c1)
 have hll:(l.length:Int)≤1000000:=by omega
 have hml:m.length≤1000000:=by omega
 refine move38 hl hll hml hr (fun e he hne=>onTup_tup (onCons_cons (onAgg_agg (onCons_cons (onLst_nil (onNil_nil (onCons_cons (onIntK_iv (onNil_nil (ifB_t (by simpa using hne) (ifB_t rfl (by simpa using h))))))))))))
  (fun hA hno=>onTup_tup (onCons_cons (onAgg_agg (onCons_cons (onLst_nil (onNil_nil (onCons_cons (onIntK_iv (onNil_nil (ifB_t rfl (ifB_t rfl (by simpa using h))))))))))))
  (fun hA t hn ht hd hno=>onTup_tup (onCons_cons (onAgg_agg (onCons_cons (onLst_nil (onNil_nil (onCons_cons (onIntK_iv (onNil_nil (ifB_t rfl (ifB_t rfl (by simpa using h))))))))))))
  (fun hA t hn ht hd hX=>onTup_tup (onCons_cons (onAgg_agg (onCons_cons (onLst_lst (onNil_nil (onCons_cons (onIntK_iv (onNil_nil (ifB_f rfl ?_))))))))))
 have hMv:MvP l m t d:=⟨ht,fun b hb=>by
  obtain ⟨h1,_,_,_⟩:=putK hA.ask.kinds hl (hA.ask.all b hb) (hr b hb)
  exact ⟨h1.put,h1.t24⟩⟩
 have hrX : ∀ b∈m.map (mvB t d),BkR b:=fun x hx=>by
  obtain ⟨b,hb,rfl⟩:=List.mem_map.1 hx
  have h5:=hA.ask.all b hb
  have h6:=hr b hb
  have:=comp_lt (a:=b.2.2.1.toNat) (b:=t) (by have:=h5.2.2.1; have:=h6.1.1; omega) ht
  exact ⟨⟨by show (0:Int)≤((comp b.2.2.1.toNat t:Nat):Int); omega,by show ((comp b.2.2.1.toNat t:Nat):Int)≤255; omega⟩,h6.2⟩
 have hmX' : (m.map (mvB t d)).length=m.length:=List.length_map ..
 have hmlX:(m.map (mvB t d)).length≤1000000:=by omega
 have hOX:OkM l (m.map (mvB t d)):=⟨⟨hA.ask.kinds,by rw [hmX']; exact hA.ask.few,hX⟩,noOv_mv hMv hA.free⟩
 have hB:=bod_ok hl hr hA.ask
 have hk : ∀ v, ∀ o∈knobsAt (bods l m) v,KnO o:=fun v o ho=>by
  obtain ⟨j,hj⟩:=List.mem_iff_getElem?.1 ho
  obtain ⟨y,hy,hyk⟩:=knobsAt_mem hj
  exact hB.ko y (mem_at hy) o (mem_at hyk)
 have eL:=lnk_mv hMv hk
 obtain ⟨eJ,hAx⟩:=jnt_mv hMv hB
 have hfew:=lnk_few hB (bods60 hl hr hA.ask)
 refine links29' hl hll hml hr hA (fun s1 hs1=>?_)
 refine links29' hl hll hmlX hrX hOX (fun s2 hs2=>?_)
 refine joints32' hl hll hml hr hA ?_
 refine joints32' hl hll hmlX hrX hOX ?_
 refine groups35' hl hll hml hr hA (fun g hg=>?_)
 refine groups35' hl hll hmlX hrX hOX (fun g' hg' => ?_)
 rw [eJ,hmX'] at hg'
 have eg:g' = g:=hg'.mv.uniq hg
 rw [eg,eL,eJ]
 rw [eL] at hs2
 refine ifB_f rfl (ifB_f rfl (ifB_f rfl (ifB_f rfl (ifB_f rfl (ifB_f rfl ?_)))))
 refine check39 hl hll hmlX hrX (fun e he hne=>(he.no hOX).elim) (fun _=>onIntK_iv (ifB_f rfl ?_))
 have ej:(jtl ((jnt (bods l m)).map (mvJ t))).length=(jnt (bods l m)).length:=by rw [jtl_length,List.length_map]
 rw [ej,jtl_length,bkl_length,bkl_length,hmX']
 refine ifB_f (by simp) (ifB_f (by simp) ?_)
 exact see (by kernel_rfl) (moved5 (g:=g) hl hll hr hA hn ht hd hOX hrX hs1 hs2 hfew hAx (jnt_few hfew) (by rw [hg.len]; exact hml) h)
end Go.Proofs.YtbionhgjgcpogaaGreatDoor
namespace Go.Proofs.YtbionhgjgcpogaaGreatDoor.Clean
open Go.Deep
set_option linter.unusedSimpArgs false
set_option linter.unusedVariables false
section
variable {H:Type} (enc:TypeId×Value→H) (P:Program) (w:World)
def FW (r:Nat):Prop:=r<w.heap.size
def Opens (t:TypeId) {α:Type} (f:α→List V) (ok:α→Prop):Prop :=
 ∀ fuel cs x,DataW.trod enc P w 0 (fun _=>true) true fuel t cs=some x → ∃ a,riL (FW w) w (f a) cs∧ok a ∧ ∀ u∈cs,u.oneCell' = true
def OpensF (total:Nat) (off:Nat) (fs:List Field) {α:Type} (f:α→List V) (ok:α→Prop):Prop :=
 ∀ n (cs:List Value),cs.length=total→(∀ fd∈fs, ∃ x,DataW.trod enc P w 0 (fun _=>true) true n fd.type ((cs.drop fd.offset).take (P.cellsOf fd.type))=some x) →
  ∃ a,riL (FW w) w (f a) (cs.drop off)∧ok a ∧ ∀ u∈cs.drop off,u.oneCell' = true
end
section
variable {H:Type} {enc:TypeId×Value→H} {P:Program} {w:World}
theorem riL_append : ∀ {vs us:List V} {xs ys:List Value},riL (FW w) w vs xs→riL (FW w) w us ys→riL (FW w) w (vs++us) (xs++ys)
 | [],us,xs,ys,h,k=>by simp only [riL] at h; subst h; simpa using k
 | v::vs,us,xs,ys,h,k=>by
  simp only [riL] at h
  obtain ⟨x,zs,rfl,h2,h3⟩:=h
  simp only [List.cons_append,riL]
  exact ⟨x,zs++ys,rfl,h2,riL_append h3 k⟩
theorem riL_one {v:V} {x:Value} (h:ri (FW w) w v x):riL (FW w) w [v] [x]:=by simp only [riL]; exact ⟨x,[],rfl,h,rfl⟩
theorem riL_get : ∀ {vs:List V} {xs:List Value},riL (FW w) w vs xs → ∀ (i:Nat) v,vs[i]? = some v → ∃ x,xs[i]? = some x∧ri (FW w) w v x
 | [],xs,h,i,v,hi=>by simp at hi
 | u::vs,xs,h,i,v,hi=>by
  simp only [riL] at h
  obtain ⟨x,ys,rfl,h2,h3⟩:=h
  cases i with
  | zero=>simp at hi; subst hi; exact ⟨x,rfl,h2⟩
  | succ i=>simp at hi; simpa using riL_get h3 i v hi
theorem riL_length : ∀ {vs:List V} {xs:List Value},riL (FW w) w vs xs→xs.length=vs.length
 | [],xs,h=>by simp only [riL] at h; simp [h]
 | v::vs,xs,h=>by simp only [riL] at h; obtain ⟨x,ys,rfl,_,h3⟩:=h; simp [riL_length h3]
theorem opens_int {t:TypeId} {k:IntKind} (ht:P.underlying t=some (.int k)):Opens enc P w t (fun n:Int=>[.raw (.int k n)]) (fun n=>(Lit.int k n).wf=true):=by
 intro fuel cs x h
 obtain ⟨n,rfl,_,hw⟩:=DataW.trod_int ht h
 exact ⟨n,riL_one (by simp [ri]),hw,by simp [Value.oneCell']⟩
theorem opens_slice {t e:TypeId} {s:Nat} {α:Type} {f:α→List V} {ok:α→Prop} (ht:P.underlying t=some (.slice e)) (hs:P.cellsOf e=s) (hpos:s≠0) (ho:Opens enc P w e f ok) :
  Opens enc P w t (fun l:List α=>[.lst s (l.map f)]) (fun l=>l.length≤maxLen ∧ ∀ a∈l,ok a):=by
 intro fuel cs x h
 rcases open_slice ht h with ⟨rfl,_⟩ | ⟨a,len,cap,m,n,D,Pl,rfl,_,hl,hm,hmm,_,hx⟩
 ·exact ⟨[],riL_one (by simp [ri]),by simp,by simp [Value.oneCell']⟩
 ·simp only [if_true] at hmm
  subst hmm
  rw [hs] at hx
  have each : ∀ i,i<len → ∃ q:α,(∃ cs', w.cells? 0 (a.add (i * s)) s=some cs' ∧ riL (FW w) w (f q) cs' ∧ ∀ u∈cs', u.oneCell' = true)∧ok q:=by
   intro i hi
   obtain ⟨cs', h1,h2⟩:=hx i (by omega)
   obtain ⟨q,h3,h4,h5⟩:=ho _ _ _ h2
   exact ⟨q,⟨cs', h1,h3,h5⟩,h4⟩
  obtain ⟨q,hq⟩ : ∃ q:Nat→Option α, ∀ i,i<len → ∃ y,q i=some y∧(∃ cs', w.cells? 0 (a.add (i * s)) s=some cs' ∧ riL (FW w) w (f y) cs' ∧ ∀ u∈cs', u.oneCell' = true)∧ok y:=by
   refine Classical.axiomOfChoice (r:=fun i (o:Option α)=>i<len → ∃ y,o=some y∧(∃ cs', w.cells? 0 (a.add (i * s)) s=some cs' ∧ riL (FW w) w (f y) cs' ∧ ∀ u∈cs', u.oneCell' = true)∧ok y) ?_
   intro i
   by_cases hi:i<len
   ·obtain ⟨y,hy⟩:=each i hi
    exact ⟨some y,fun _=>⟨y,rfl,hy⟩⟩
   ·exact ⟨none,fun h=>(hi h).elim⟩
  let l:List α:=(List.range len).filterMap q
  have hl' : l.length=len ∧ ∀ i,i<len→l[i]? = q i:=by
   have key : ∀ k,k≤len→((List.range k).filterMap q).length=k ∧ ∀ i,i<k→((List.range k).filterMap q)[i]? = q i:=by
    intro k
    induction k with
    | zero=>intro _; simp
    | succ k ih =>
     intro hk
     obtain ⟨h1,h2⟩:=ih (by omega)
     obtain ⟨y,hy,_⟩:=hq k (by omega)
     have:(List.range (k+1)).filterMap q=(List.range k).filterMap q++[y]:=by rw [List.range_succ,List.filterMap_append]; simp [hy]
     rw [this]
     refine ⟨by simp [h1],fun i hi=>?_⟩
     by_cases hik:i<k
     ·rw [List.getElem?_append_left (by omega)]; exact h2 i hik
     ·have:i=k:=by omega
      subst this
      rw [List.getElem?_append_right (by omega),h1,hy]; simp
   exact key len (Nat.le_refl _)
  refine ⟨l,riL_one ?_,⟨by omega,fun b hb=>?_⟩,by simp [Value.oneCell']⟩
  ·simp only [ri]
   refine .inr ⟨a,m,by simp [hl'.1]; exact hl,by simp [hl'.1],?_⟩
   by_cases h0:len=0
   ·left
    have:l=[]:=List.eq_nil_of_length_eq_zero (by omega)
    simp [this]
   ·right
    have cell : ∀ (i:Nat) (cs' : List Value),i<len→w.cells? 0 (a.add (i * s)) s=some cs' → ∀ j,j<s→w.cell? (a.add (i * s+j))=cs'[j]? ∧ cs'.length=s:=by
     intro i cs' hi hc j hj
     obtain ⟨_,hlen,hcc⟩:=World.cells?_some hc
     have:=hcc j hj
     rw [add_add] at this
     exact ⟨this,hlen⟩
    obtain ⟨y0,hy0,⟨cs0,c1,_,_⟩,_⟩:=hq 0 (by omega)
    have hc0:=(cell 0 cs0 (by omega) c1 0 (by omega))
    have hsome : ∃ u,w.cell? a=some u:=by
     have h1:=hc0.1
     rw [Nat.zero_mul,Nat.zero_add] at h1
     have:a.add 0=a:=by simp [Addr.add]
     rw [this] at h1
     rw [h1]
     exact ⟨cs0[0]'(by omega),List.getElem?_eq_getElem (by omega)⟩
    obtain ⟨u0,hu0⟩:=hsome
    have hspot:a.spot=none:=by
     unfold World.cell? at hu0
     split at hu0
     ·split at hu0
      ·cases hu0
      ·rename_i h; simpa using h
     ·cases hu0
    obtain ⟨ab,ao,asp⟩:=a
    simp only at hspot
    subst hspot
    refine ⟨rfl,World.block_lt_of_cell? w _ hu0,?_⟩
    rw [riRows_iff]
    intro i row hrow
    rw [List.getElem?_map,Option.map_eq_some_iff] at hrow
    obtain ⟨b,hb,rfl⟩:=hrow
    have hi:i<len:=by have:=(List.getElem?_eq_some_iff.1 hb).1; omega
    obtain ⟨y,hy,⟨cs', g1,g2,g3⟩,_⟩:=hq i hi
    rw [hl'.2 i hi,hy] at hb
    simp at hb
    subst hb
    have hlen' := riL_length g2
    obtain ⟨_,hclen,_⟩:=World.cells?_some g1
    refine ⟨by omega,fun j v hj=>?_⟩
    obtain ⟨z,z1,z2⟩:=riL_get g2 j v hj
    have hjs:j<s:=by have:=(List.getElem?_eq_some_iff.1 z1).1; omega
    refine ⟨z,?_,g3 z (List.mem_of_getElem? z1),z2⟩
    have:=(cell i cs' hi g1 j hjs).1
    rw [add_lit,← Nat.add_assoc] at this
    rw [this]; exact z1
  ·obtain ⟨i,hi⟩:=List.mem_iff_getElem?.1 hb
   have hil:i<len:=by have:=(List.getElem?_eq_some_iff.1 hi).1; omega
   obtain ⟨y,hy,_,hok⟩:=hq i hil
   rw [hl'.2 i hil,hy] at hi
   simp at hi
   exact hi ▸ hok
theorem opensF_nil {total:Nat}:OpensF enc P w total total [] (fun _:Unit=>[]) (fun _=>True):=by
 intro n cs hl _
 rw [List.drop_of_length_le (by omega)]
 exact ⟨(),by simp [riL],trivial,by simp⟩
theorem opensF_cons {total off k:Nat} {fd:Field} {fs:List Field} {α β:Type} {f:α→List V} {g:β→List V} {ok:α→Prop} {ok' : β→Prop} (ho:fd.offset=off) (hk:P.cellsOf fd.type=k)
  (h1:Opens enc P w fd.type f ok) (h2:OpensF enc P w total (off+k) fs g ok'):OpensF enc P w total off (fd::fs) (fun x:α×β=>f x.1++g x.2) (fun x=>ok x.1∧ok' x.2):=by
 intro n cs hl hf
 obtain ⟨x,hx⟩:=hf fd (by simp)
 rw [ho,hk] at hx
 obtain ⟨a,a1,a2,a3⟩:=h1 _ _ _ hx
 obtain ⟨b,b1,b2,b3⟩:=h2 n cs hl (fun fd' h' => hf fd' (by simp [h']))
 have hsplit:cs.drop off=(cs.drop off).take k++cs.drop (off+k):=by rw [← List.drop_drop,List.take_append_drop]
 refine ⟨(a,b),?_,⟨a2,b2⟩,?_⟩
 ·rw [hsplit]; exact riL_append a1 b1
 ·rw [hsplit]
  intro u hu
  rcases List.mem_append.1 hu with hu | hu
  ·exact a3 u hu
  ·exact b3 u hu
theorem opens_struct {t:TypeId} {fs:Array Field} {total:Nat} {α:Type} {f:α→List V} {ok:α→Prop} (ht:P.underlying t=some (.struct fs)) (hc:P.cellsOf t=total) (h:OpensF enc P w total 0 fs.toList f ok):Opens enc P w t f ok:=by
 intro fuel cs x hx
 obtain ⟨xs,n,_,_,hl,hxl,hf⟩:=DataW.trod_struct ht hx
 have:=h n cs (by omega) (fun fd hfd=>by
  obtain ⟨i,hi⟩:=List.mem_iff_getElem?.1 hfd
  have hi' : fs[i]? = some fd:=by simpa using hi
  have:=hf i fd hi'
  have hil:i<xs.length:=by rw [hxl]; exact lt_of_some hi'
  rw [List.getElem?_eq_getElem hil] at this
  exact ⟨_,this⟩)
 simpa using this
theorem arg_int {t:TypeId} {k:IntKind} {v:Value} {d:DataW H} {p:List MemPlace} {r:Reach} {b0:Nat} (ht:P.underlying t=some (.int k)) (hval:Value.okWide P w r b0 t v) (h:DataW.Trod enc P w 0 (fun _=>true) true t v d p) :
  ∃ n,ri (FW w) w (.raw (.int k n)) v∧(Lit.int k n).wf=true:=by
 obtain ⟨n,rfl,_,_,hw⟩:=ChangeShapes.open_int ht hval h
 exact ⟨n,by simp [ri],hw⟩
theorem arg_slice {t e:TypeId} {v:Value} {d:DataW H} {p:List MemPlace} {r:Reach} {b0:Nat} {α:Type} {f:α→V} {ok:α→Prop} (ht:P.underlying t=some (.slice e)) (hval:Value.okWide P w r b0 t v) (h:DataW.Trod enc P w 0 (fun _=>true) true t v d p)
  (ho:Opens enc P w t (fun a=>[f a]) ok) : ∃ a,ri (FW w) w (f a) v∧ok a:=by
 obtain ⟨a,len,cap,rfl⟩:=WideShapes.okWide_slice ht hval
 obtain ⟨fuel,hf⟩:=h
 obtain ⟨y,h1,h2,_⟩:=ho _ _ _ hf
 simp only [Value.cells,riL] at h1
 obtain ⟨x,xs,hx,h3,_⟩:=h1
 simp at hx
 exact ⟨y,by rw [hx.1]; exact h3,h2⟩
theorem arg_struct {t:TypeId} {fs:Array Field} {v:Value} {d:DataW H} {p:List MemPlace} {r:Reach} {b0:Nat} {α:Type} {f:α→List V} {ok:α→Prop} (ht:P.underlying t=some (.struct fs)) (hval:Value.okWide P w r b0 t v) (h:DataW.Trod enc P w 0 (fun _=>true) true t v d p)
  (ho:Opens enc P w t f ok) : ∃ a,ri (FW w) w (.agg (f a)) v∧ok a:=by
 obtain ⟨cs,rfl,_⟩:=WideShapes.okWide_struct ht hval
 obtain ⟨fuel,hf⟩:=h
 obtain ⟨y,h1,h2,_⟩:=ho _ _ _ hf
 exact ⟨y,by simp only [ri]; exact ⟨cs,rfl,h1⟩,h2⟩
end
end Go.Proofs.YtbionhgjgcpogaaGreatDoor.Clean
namespace Go.Proofs.YtbionhgjgcpogaaGreatDoor.Clean
set_option linter.unusedVariables false
set_option linter.unusedSimpArgs false
mutual
def litC {H:Type} (P:Program):Nat→TypeId→DataW H→Option (List V)
 | 0,_,_=>none
 | f+1,t,d=>match P.underlying t with
  | some (.int k)=>match d with
   | .lit (.int k' n)=>some [.raw (.int k n)]
   | _=>none
  | some (.struct fs)=>match d with
   | .agg xs=>litF P f (P.cellsOf t) fs.toList xs 0
   | _=>none
  | some (.array n e)=>match d with
   | .agg xs=>if P.cellsOf t=n * P.cellsOf e then litA P f e xs else none
   | _=>none
  | _=>none
def litF {H:Type} (P:Program):Nat→Nat→List Field→List (DataW H)→Nat→Option (List V)
 | 0,_,_,_,_=>none
 | _+1,n,[],[],o=>if n=o then some [] else none
 | f+1,n,fd::fs,x::xs,o=>if fd.offset=o then (litC P f fd.type x).bind fun a=>(litF P f n fs xs (o+P.cellsOf fd.type)).bind fun b=>if a.length=P.cellsOf fd.type then some (a++b) else none else none
 | _,_,_,_,_=>none
def litA {H:Type} (P:Program):Nat→TypeId→List (DataW H)→Option (List V)
 | 0,_,_=>none
 | _+1,_,[]=>some []
 | f+1,e,x::xs=>(litC P f e x).bind fun a=>(litA P f e xs).bind fun b=>if a.length=P.cellsOf e then some (a++b) else none
end
section
variable {H:Type} {enc:TypeId×Value→H} {P:Program} {w:World} {b0:Nat} {sp:Nat→Bool} {held:Bool}
def CellsOK (w:World) (vs:List V) (cs:List Value):Prop:=cs.length=vs.length ∧ ∀ (i:Nat) v x,vs[i]? = some v→cs[i]? = some x→x.oneCell' = true∧ri (FW w) w v x
theorem CellsOK.append {vs us:List V} {cs ds:List Value} (h:CellsOK w vs cs) (k:CellsOK w us ds):CellsOK w (vs++us) (cs++ds):=by
 refine ⟨by simp [h.1,k.1],fun i v x hv hx=>?_⟩
 by_cases hi:i<vs.length
 ·rw [List.getElem?_append_left hi] at hv
  rw [List.getElem?_append_left (by rw [h.1]; exact hi)] at hx
  exact h.2 i v x hv hx
 ·rw [List.getElem?_append_right (by omega)] at hv
  rw [List.getElem?_append_right (by rw [h.1]; omega),h.1] at hx
  exact k.2 _ v x hv hx
theorem take_split (cs:List Value) (o n:Nat):cs.drop o=(cs.drop o).take n++cs.drop (o+n):=by rw [← List.drop_drop,List.take_append_drop]
theorem lit_ok (f:Nat) :
  (∀ (t:TypeId) (d:DataW H) (vs:List V),litC P f t d=some vs → ∀ fuel cs x,DataW.trod enc P w b0 sp held fuel t cs=some x→x.1=d→CellsOK w vs cs) ∧
  (∀ (fs:List Field) (xs:List (DataW H)) (o:Nat) (vs:List V) (cs:List Value),litF P f cs.length fs xs o=some vs → ∀ m (ys:List (DataW H×List MemPlace)),ys.map (·.1)=xs→(∀ (i:Nat) fd,fs[i]? = some fd→DataW.trod enc P w b0 sp held m fd.type ((cs.drop fd.offset).take (P.cellsOf fd.type))=ys[i]?)→CellsOK w vs (cs.drop o)) ∧
  (∀ (e:TypeId) (xs:List (DataW H)) (o:Nat) (vs:List V) (cs:List Value),litA P f e xs=some vs→cs.length=o+xs.length * P.cellsOf e → ∀ m (ys:List (DataW H×List MemPlace)),ys.map (·.1)=xs→(∀ (i:Nat),i<xs.length→DataW.trod enc P w b0 sp held m e ((cs.drop (o+i * P.cellsOf e)).take (P.cellsOf e))=ys[i]?)→CellsOK w vs (cs.drop o)):=by
 induction f with
 | zero=>exact ⟨fun t d vs h=>by simp [litC] at h,fun fs xs o vs cs h=>by simp [litF] at h,fun e xs o vs cs h=>by simp [litA] at h⟩
 | succ f ih =>
  obtain ⟨ihC,ihF,ihA⟩:=ih
  refine ⟨fun t d vs h fuel cs x hx hd=>?_,fun fs xs o vs cs h m ys hys hf=>?_,fun e xs o vs cs h hl m ys hys hf=>?_⟩
  ·simp only [litC] at h
   split at h
   ·rename_i k hk
    split at h
    ·rename_i k' n
     cases h
     obtain ⟨m,rfl,h2,_⟩:=DataW.trod_int hk hx
     have hxd:x.1 = .lit (.int k m):=by rw [h2]
     rw [hd] at hxd
     simp only [DataW.lit.injEq,Lit.int.injEq] at hxd
     obtain ⟨_,rfl⟩:=hxd
     refine ⟨rfl,fun i v x hv hx=>?_⟩
     cases i with
     | zero=>simp at hv hx; subst hv; subst hx; exact ⟨rfl,by simp [ri]⟩
     | succ i=>simp at hv
    ·cases h
   ·rename_i fs hs
    split at h
    ·rename_i xs
     obtain ⟨ys,n,_,hy,hl,hyl,hf⟩:=DataW.trod_struct hs hx
     have hxs:ys.map (·.1)=xs:=by
      have:=hd
      rw [hy] at this
      simpa using this
     rw [← hl] at h
     have:=ihF fs.toList xs 0 vs cs h n ys hxs (fun i fd hi=>hf i fd (by simpa using hi))
     simpa using this
    ·cases h
   ·rename_i n e ha
    split at h
    ·rename_i xs
     split at h
     ·rename_i hn
      obtain ⟨ys,m,_,hy,hl,hyl,hf⟩:=DataW.trod_array ha hx
      have hxs:ys.map (·.1)=xs:=by
       have:=hd
       rw [hy] at this
       simpa using this
      have hxl:xs.length=n:=by rw [← hxs]; simpa using hyl
      have:=ihA e xs 0 vs cs h (by rw [hl,hn,hxl]; omega) m ys hxs (fun i hi=>by rw [Nat.zero_add]; exact hf i (by omega))
      simpa using this
     ·cases h
    ·cases h
   ·cases h
  ·cases fs with
   | nil =>
    cases xs with
    | nil =>
     simp only [litF] at h
     split at h
     ·rename_i hn
      cases h
      subst hn
      refine ⟨by simp,fun i v x hv hx=>by simp at hv⟩
     ·cases h
    | cons x xs=>simp [litF] at h
   | cons fd fs =>
    cases xs with
    | nil=>simp [litF] at h
    | cons x xs =>
     simp only [litF] at h
     split at h
     ·rename_i ho
      cases ha:litC P f fd.type x with
      | none=>rw [ha] at h; cases h
      | some a =>
       cases hb:litF P f cs.length fs xs (o+P.cellsOf fd.type) with
       | none=>rw [ha,hb] at h; cases h
       | some b =>
        rw [ha,hb] at h
        simp only [Option.bind_some] at h
        split at h
        ·rename_i hal
         cases h
         cases ys with
         | nil=>simp at hys
         | cons y ys =>
          simp only [List.map_cons,List.cons.injEq] at hys
          have h0:=hf 0 fd rfl
          rw [ho] at h0
          rw [take_split cs o (P.cellsOf fd.type)]
          exact (ihC _ _ _ ha _ _ _ h0 hys.1).append (ihF fs xs _ b cs hb m ys hys.2 (fun i fd' hi=>hf (i+1) fd' (by simpa using hi)))
        ·cases h
     ·cases h
  ·cases xs with
   | nil =>
    simp only [litA,Option.some.injEq] at h
    subst h
    refine ⟨by simp at hl ⊢; omega,fun i v x hv hx=>by simp at hv⟩
   | cons x xs =>
    simp only [litA] at h
    cases ha:litC P f e x with
    | none=>rw [ha] at h; cases h
    | some a =>
     cases hb:litA P f e xs with
     | none=>rw [ha,hb] at h; cases h
     | some b =>
      rw [ha,hb] at h
      simp only [Option.bind_some] at h
      split at h
      ·rename_i hal
       cases h
       cases ys with
       | nil=>simp at hys
       | cons y ys =>
        simp only [List.map_cons,List.cons.injEq] at hys
        have h0:=hf 0 (by simp)
        rw [Nat.zero_mul,Nat.add_zero] at h0
        rw [take_split cs o (P.cellsOf e)]
        refine (ihC _ _ _ ha _ _ _ h0 hys.1).append (ihA e xs _ b cs hb (by rw [hl,List.length_cons,Nat.add_mul]; omega) m ys hys.2 (fun i hi=>?_))
        have:=hf (i+1) (by simpa using hi)
        rw [Nat.add_mul,Nat.one_mul] at this
        rw [show o+P.cellsOf e+i * P.cellsOf e=o+(i * P.cellsOf e+P.cellsOf e) by omega]
        simpa using this
      ·cases h
end
structure LaidOne (P:Program) (g:Nat) (n:String) (d:DataW Unit) (vs:List V):Prop where
 name:P.globalNamed n=some g
 cells:(((P.globals[g]?).map (·.type)).bind fun t=>litC P 64 t d)=some vs
theorem riCells_of {F:Nat→Prop} {w:World} {b:Nat} : ∀ (vs:List V) (o:Nat),(∀ i v,vs[i]? = some v → ∃ x,w.cell? ⟨b,o+i,none⟩=some x∧x.oneCell' = true∧ri F w v x)→riCells F w b vs o
 | [],o,_=>by simp only [riCells]
 | v::vs,o,h=>by
  simp only [riCells]
  refine ⟨by simpa using h 0 v rfl,riCells_of vs (o+1) fun i v hi=>?_⟩
  have:=h (i+1) v (by simpa using hi)
  rwa [show o+(i+1)=o+1+i by omega] at this
theorem laid_adr {P:Program} {w:World} {laid:List (String×DataW Unit)} (hp:(laid.all fun x=>x.2.handleName?.isNone)=true) (h:laidMetH P laid w) {g:Nat} {n:String} {d:DataW Unit} {vs:List V} (hm:(n,d)∈laid) (ho:LaidOne P g n d vs) (hne:vs≠[]) :
  ri (FW w) w (.adr vs 0) (.pointer (some ⟨g,0,none⟩)):=by
 rw [MakeChecks.laidMetH_plain _ _ _ hp] at h
 obtain ⟨ps,hl,_⟩:=h
 have key : ∀ (l:List (String×DataW Unit)) (ps:List MemPlace),DataW.LaidVars P w l ps→(n,d)∈l → ∃ t cs fuel p,(P.globals[g]?).map (·.type)=some t∧w.var? P n=some cs∧DataW.trod (fun _=>()) P w 0 (fun _=>true) false fuel t cs.toList=some (d,p):=by
  intro l
  induction l with
  | nil=>intro ps _ hm; cases hm
  | cons a r ih =>
   obtain ⟨n', d'⟩:=a
   intro ps hl hm
   obtain ⟨g', t,cs,fuel,p,q,h1,h2,h3,h4,h5,_⟩:=hl
   rcases List.mem_cons.1 hm with he | he
   ·cases he
    obtain rfl:=Option.some.inj (ho.name.symm.trans h1)
    exact ⟨t,cs,fuel,p,h2,h3,h4⟩
   ·exact ih q h5 he
 obtain ⟨t,cs,fuel,p,h1,h2,h3⟩:=key laid ps hl hm
 have k2:=ho.cells
 rw [h1,Option.bind_some] at k2
 have hc:=(lit_ok 64).1 _ _ _ k2 _ _ _ h3 rfl
 have hv:=World.var?_cell ho.name h2
 simp only [ri]
 have cell : ∀ i v,vs[i]? = some v → ∃ x,w.cell? ⟨g,0+i,none⟩=some x∧x.oneCell' = true∧ri (FW w) w v x:=by
  intro i v hi
  have hlt:i<vs.length:=(List.getElem?_eq_some_iff.1 hi).1
  have hlt' : i<cs.toList.length:=by rw [hc.1]; exact hlt
  obtain ⟨q1,q2⟩:=hc.2 i v _ hi (List.getElem?_eq_getElem hlt')
  refine ⟨cs.toList[i],?_,q1,q2⟩
  rw [Nat.zero_add,hv i]
  simp at hlt' ⊢
 refine ⟨g,0,by simp,?_,riCells_of vs 0 cell⟩
 obtain ⟨v,r,rfl⟩:=List.exists_cons_of_ne_nil hne
 obtain ⟨x,hx,_⟩:=cell 0 v rfl
 show g<w.heap.size
 simp only [World.cell?] at hx
 cases hh:w.heap[0+g]? with
 | none=>rw [Nat.zero_add] at hh; rw [hh] at hx; simp at hx
 | some o=>rw [Nat.zero_add] at hh; exact lt_of_some hh
end Go.Proofs.YtbionhgjgcpogaaGreatDoor.Clean
