/- A part of the proof. -/
import Derived.ProofKit
import Derived.Deep.Slices
import Derived.Carry
import Derived.OpenShut
import Derived.MakeChecks
import Derived.FnData
import Derived.Deep.Strs
import Derived.Test.YtbionhgjgcpogaaDoorXP3G7
import Derived.Test.YtbionhgjgcpogaaDoorXP3G15
namespace Go.Proofs.YtbionhgjgcpogaaDoor
open Go Go.Proofs.YtbionhgjgcpogaaDoor.Clean
set_option linter.unusedVariables false
set_option linter.unusedSimpArgs false
set_option maxRecDepth 10000
theorem askM.uniq {l:List Kd} {m:List Bk} {e f:Int} (h:askM l m e) (g:askM l m f):e=f:=by
 rcases h with ⟨h1,h2⟩ | ⟨h1,h2,h3⟩ | ⟨h1,h2,h3⟩ | ⟨h1,h2,h3,h4⟩ | ⟨h1,h2⟩ <;> rcases g with ⟨g1,g2⟩ | ⟨g1,g2,g3⟩ | ⟨g1,g2,g3⟩ | ⟨g1,g2,g3,g4⟩ | ⟨g1,g2⟩ <;> first | omega | exact (h2 g1).elim | exact (g2 h1).elim | exact (h2 g1.kinds).elim | exact (g2 h1.kinds).elim | exact (h3 g1.all).elim | exact (g3 h1.all).elim | (have:=h1.few; omega) | (have:=g1.few; omega) | (have:=h1.1; omega) | (have:=g1.1; omega) | (have:=h1.kinds.1; omega) | (have:=g1.kinds.1; omega)
theorem errM.uniq {l:List Kd} {m:List Bk} {e f:Int} (h:errM l m e) (g:errM l m f):e=f:=by
 rcases h with ⟨h1,h2⟩ | ⟨h1,h2,h3⟩ <;> rcases g with ⟨g1,g2⟩ | ⟨g1,g2,g3⟩
 ·exact h1.uniq g1
 ·exact (h2 (h1.uniq (.inr (.inr (.inr (.inr ⟨g1,rfl⟩)))))).elim
 ·exact (g2 (g1.uniq (.inr (.inr (.inr (.inr ⟨h1,rfl⟩)))))).elim
 ·omega
theorem errM.no {l:List Kd} {m:List Bk} {e:Int} (h:errM l m e) (g:OkM l m):False:=by
 rcases h with ⟨h1,h2⟩ | ⟨h1,h2,h3⟩
 ·exact h2 (h1.uniq (.inr (.inr (.inr (.inr ⟨g.ask,rfl⟩)))))
 ·exact h2 g.free
theorem greatK {l:List Kd} {m:List Bk} (h : ¬ GreatP l m) (hr : ∀ q∈l, ∀ k∈q.2.1,KnR k):l.length≤20 ∧ ∀ q∈l,KdR q:=by
 refine ⟨Nat.le_of_not_lt fun x=>h (.inl x),fun q hq=>⟨hr q hq,Nat.le_of_not_lt fun x=>h (.inr (.inr ⟨q,hq,.inl x⟩)),Nat.le_of_not_lt fun x=>h (.inr (.inr ⟨q,hq,.inr x⟩))⟩⟩
theorem great45 {l:List Kd} {m:List Bk} (h : ¬ GreatP l m):m.length≤45:=by
 unfold GreatP at h
 rcases Nat.lt_or_ge 45 m.length with g | g
 ·exact (h (.inr (.inl g))).elim
 ·exact g
theorem hc3:cf3.ok Tryd.prog:=by
 have h:(cfgG Tryd.prog glX mo3 poP (rtP fN) (inN []) kp3).ok Tryd.prog:=cfgG_ok (rtP_ok fN)
 exact ⟨h.1,h.2⟩
theorem own_eq (m:List Bk):sub ([]++bkl m) 0 (0+(bkl m).length)=bkl m:=by
 rw [Nat.zero_add,List.nil_append,sub,List.drop_zero,List.take_length]
theorem sub_bk (m:List Bk):sub (bkl m) 0 (bkl m).length=bkl m:=by rw [sub,List.drop_zero,List.take_length]
theorem bset {x:List Bk} {i:Nat} {b:Bk} {w:Int}:(bkl x).set (0+i) (iv w::(List.append []) (List.drop 1 (bkr b)))=bkl (x.set i (w,b.2)):=by rw [Nat.zero_add]; simp [bkl,List.map_set,bkr]
theorem tail3 {m x:List Bk} {R:V→Prop} (hm:m.length≤1000000) (hx:x.length≤1000000) (h:R (bv true)):La 0 [(5:Tmp),(9:Tmp),(16:Tmp),(104:Tmp),(105:Tmp)] (WY Tryd.prog cf3 2984 (Env.mk (Bs.mk 0 []) 0 none 121 3 0) (cdAt [1,1,1,1,1,1,1,1,1,1,1,1,0,1,0,0] (bodyOf Tryd.f3))) (Qblk 0 (Qthen (WY Tryd.prog cf3 2987 (Env.mk (Bs.mk 0 []) 0 none 121 3 0) (cdAt [1,1,1,1,1,1,1,1,1,1,1,1,1] (bodyOf Tryd.f3)) (QendX Tryd.prog Tryd.f3 fun v h=>R (frzW h v))) (QendX Tryd.prog Tryd.f3 fun v h=>R (frzW h v)))) (sh3 m x x.length x.length 0):=by
 obtain ⟨s,hs⟩ : ∃ s,s=x.length:=⟨_,rfl⟩
 rw [← hs]
 obtain ⟨q,hq⟩ : ∃ q,q=s:=⟨_,rfl⟩
 refine La.of (σ:=Nat×List Bk) (fun z=>sh3 m z.2 s s z.1) (fun z=>z.1≤s∧z.2.length=s) (fun z=>s - z.1) (0,x) rfl ⟨by simp only; omega,hs.symm⟩ ?_
 have hs6:s≤1000000:=by omega
 clear hs hx x
 rintro ⟨i,x⟩ ⟨g1,g2⟩ J hJ
 simp only at g1 g2
 rw [← hq] at hJ ⊢
 subst hq
 obtain ⟨s,hs⟩ : ∃ s,s=q:=⟨_,rfl⟩
 refine see (p:=ifB (decide ((↑i:Int)<(↑q:Int))) (need (i<q) (onSome (bkl x)[0+i]? fun row=>onSome row[0]? fun v=>onIntK IntKind.i64 v fun n=>need (i<q) (onSome (bkl x)[0+i]? fun row=>guardB ((0+1).ble row.length) (J (St.mk (mkT [(5,V.ptr (Id.p 0) 0 0),(9,V.ptr (Id.p 1) 0 0),(16,V.ptr (Id.p 2) 0 0),(104,iv (↑q:Int)),(105,iv (IntKind.i64.wrap ((↑i:Int)+(1:Int))))]) (Hp.mk [(0,O.rows 1 false [[V.lst 6 (bkl m)]]),(1,O.rows 1 false [[V.lst 6 (bkl m)]]),(2,O.rows 1 false [[V.sl (Id.p 3) 0 q]]),(3,O.rows 6 true ((bkl x).set (0+i) (iv (IntKind.i64.wrap (n+(1:Int)))::(List.append []) (List.drop 1 row))))] 4 [])))))) (K0G Tryd.prog glX 14 [V.agg [V.lst 6 (bkl m)],V.agg [V.lst 6 (bkl m)]] fun v=>onBool v fun b=>R (bv b))) (by kernel_rfl) ?_
 refine ifB_mk (fun e=>?_) (fun e=>?_)
 ·have hi:i<q:=by have:=of_decide_eq_true e; omega
  obtain ⟨b,hb⟩:=getI (l:=x) (k:=i) (by omega)
  have r0:(bkl x)[0+i]? = some (bkr b):=by rw [Nat.zero_add]; simp [bkl,hb]
  refine need_mk ⟨hi,onSome_mk r0 (onSome_mk (x:=iv b.1) rfl (onIntK_iv (need_mk ⟨hi,onSome_mk r0 (guardB_mk rfl ?_)⟩)))⟩
  rw [bset,wr1i hi (by omega)]
  exact hJ (i+1,_) ⟨hi,by simp only; rw [List.length_set]; exact g2⟩ (by simp only; omega)
 ·refine same14 hm (onBool_bv ?_)
  rw [dc_t rfl]
  exact h
theorem same14n {s t:Nat} {R:V→Prop} (h:R (bv true)):K0G Tryd.prog glX 14 [.agg [.lst s []],.agg [.lst t []]] R :=
 K0_args (same14 (a:=[]) (b:=[]) (by simp) (by rw [dc_t rfl]; exact h)) (fun F w xs hx=>by
  simpa [riL,ri,riRows,riCells,bkl] using hx)
theorem pairO {l:List Kd} {m:List Bk} {F G:Prop} (hl : ∀ q∈l,KdR q) (hll:(l.length:Int)≤1000000) (hml:m.length≤1000) (hr : ∀ b∈m,BkR b) (h:G):K0G Tryd.prog glX 5 [.lst 3 (kdl l),.agg [.lst 6 (bkl m)]] fun v=>onTup v fun vs=>onCons vs fun u r=>onLst u fun s es=>onCons r fun u r=>onIntK IntKind.i64 u fun n_1=>onNil r (K0G Tryd.prog glX 6 [.lst 3 (kdl l),.agg [.lst 6 (bkl m)]] fun v=>onTup v fun vs=>onCons vs fun u r=>onLst u fun s_1 es_1=>onCons r fun u r=>onIntK IntKind.i64 u fun n_2=>onNil r (K0G Tryd.prog glX 7 [V.lst s es,V.lst s_1 es_1] fun v=>onBool v fun b=>ifB (!b) F (ifB (n_1 != n_2) F G))):=by
 have hml' : m.length≤1000000:=by omega
 have lf : ∀ {e:Int},ifB (!true) F (ifB (e != e) F G):=fun {e}=>ifB_f rfl (ifB_f (by simp) h)
 have a0 : ∀ {e:Int},askM l m e→e≠0→AskM l m→False:=fun he hne hA=>hne (he.uniq (.inr (.inr (.inr (.inr ⟨hA,rfl⟩)))))
 refine overlaps5 hl hll hml' hr (fun e he hne=>onTup_tup (onCons_cons (onLst_nil (onCons_cons (onIntK_iv (onNil_nil ?_)))))) (fun hA s hs=>onTup_tup (onCons_cons (onLst_lst (onCons_cons (onIntK_iv (onNil_nil ?_))))))
 ·refine overlaps6 hl hll hml' hr (fun e' he' hne' => onTup_tup (onCons_cons (onLst_nil (onCons_cons (onIntK_iv (onNil_nil (same7n (onBool_bv ?_)))))))) (fun hA _ _=>(a0 he hne hA).elim)
  rw [he.uniq he']
  exact lf
 ·refine overlaps6 hl hll hml' hr (fun e' he' hne' => (a0 he' hne' hA).elim) (fun _ t ht=>onTup_tup (onCons_cons (onLst_lst (onCons_cons (onIntK_iv (onNil_nil ?_))))))
  by_cases e:ovl (bods l m) (bods l m).length=[]
  ·rw [e]
   exact same7n (onBool_bv lf)
  ·rw [hs.resolve_right e,ht.resolve_right e]
   refine same7 rfl ?_ (onBool_bv lf)
   have h1:=ovl_len (bods l m) (bods l m).length
   rw [bods_length] at h1 ⊢
   have h2:m.length * m.length≤1000 * 1000:=Nat.mul_le_mul hml hml
   omega
theorem pairC {l:List Kd} {m:List Bk} {F G:Prop} (hl : ∀ q∈l,KdR q) (hll:(l.length:Int)≤1000000) (hml:m.length≤1000000) (hr : ∀ b∈m,BkR b) (h:G):K0G Tryd.prog glX 8 [.lst 3 (kdl l),.agg [.lst 6 (bkl m)]] fun v=>onIntK IntKind.i64 v fun n_3=>K0G Tryd.prog glX 9 [.lst 3 (kdl l),.agg [.lst 6 (bkl m)]] fun v=>onIntK IntKind.i64 v fun n_4=>ifB (n_3 != n_4) F G:=by
 refine check39 hl hll hml hr (fun e he hne=>onIntK_iv ?_) (fun hA=>onIntK_iv ?_)
 ·exact check66 hl hll hml hr (fun e' he' hne' => onIntK_iv (ifB_f (by simp [he.uniq he']) h)) (fun hA=>(he.no hA).elim)
 ·exact check66 hl hll hml hr (fun e' he' hne' => (he'.no hA).elim) (fun _=>onIntK_iv (ifB_f rfl h))
theorem onSp {s:Sp} {e:Int} {k:Int→Int→Int→Int→Int→Int→Int→Prop} (h:k s.1.1 s.1.2.1 s.1.2.2 s.2.1 s.2.2.1 s.2.2.2 e):onTup (V.tup [V.agg (spr s),iv e]) fun vs=>onCons vs fun u r=>onAgg u fun cs=>onCons cs fun u r_1=>onIntK IntKind.i64 u fun n_5=>onCons r_1 fun u r_2=>onIntK IntKind.i64 u fun n_6=>onCons r_2 fun u r_3=>onIntK IntKind.i64 u fun n_7=>onCons r_3 fun u r_4=>onIntK IntKind.i64 u fun n_8=>onCons r_4 fun u r_5=>onIntK IntKind.i64 u fun n_9=>onCons r_5 fun u r_6=>onIntK IntKind.i64 u fun n_10=>onNil r_6 (onCons r fun u r=>onIntK IntKind.i64 u fun n_11=>onNil r (k n_5 n_6 n_7 n_8 n_9 n_10 n_11)):=h
theorem pairB {l:List Kd} {m:List Bk} {F G:Prop} (hl : ∀ q∈l,KdR q) (hll:(l.length:Int)≤1000000) (hml:m.length≤1000000) (hr : ∀ b∈m,BkR b) (h:G):K0G Tryd.prog glX 10 [.lst 3 (kdl l),.agg [.lst 6 (bkl m)]] fun v=>onTup v fun vs=>onCons vs fun u r=>onAgg u fun cs=>onCons cs fun u r_1=>onIntK IntKind.i64 u fun n_5=>onCons r_1 fun u r_2=>onIntK IntKind.i64 u fun n_6=>onCons r_2 fun u r_3=>onIntK IntKind.i64 u fun n_7=>onCons r_3 fun u r_4=>onIntK IntKind.i64 u fun n_8=>onCons r_4 fun u r_5=>onIntK IntKind.i64 u fun n_9=>onCons r_5 fun u r_6=>onIntK IntKind.i64 u fun n_10=>onNil r_6 (onCons r fun u r=>onIntK IntKind.i64 u fun n_11=>onNil r (K0G Tryd.prog glX 11 [.lst 3 (kdl l),.agg [.lst 6 (bkl m)]] fun v=>onTup v fun vs=>onCons vs fun u r=>onAgg u fun cs=>onCons cs fun u r_7=>onIntK IntKind.i64 u fun n_12=>onCons r_7 fun u r_8=>onIntK IntKind.i64 u fun n_13=>onCons r_8 fun u r_9=>onIntK IntKind.i64 u fun n_14=>onCons r_9 fun u r_10=>onIntK IntKind.i64 u fun n_15=>onCons r_10 fun u r_11=>onIntK IntKind.i64 u fun n_16=>onCons r_11 fun u r_12=>onIntK IntKind.i64 u fun n_17=>onNil r_12 (onCons r fun u r=>onIntK IntKind.i64 u fun n_18=>onNil r (ifB (!(fun b=>(fun b=>n_5==n_12&&b) ((fun b=>n_6==n_13&&b) ((fun b=>n_7==n_14&&b) true))&&b) ((fun b=>(fun b=>n_8==n_15&&b) ((fun b=>n_9==n_16&&b) ((fun b=>n_10==n_17&&b) true))&&b) true)) F (ifB (n_11 != n_18) F G))))):=by
 refine bounds10 hl hll hml hr (fun e he hne=>onSp ?_) (fun hA=>onSp ?_)
 ·exact bounds11 hl hll hml hr (fun e' he' hne' => onSp (ifB_f (by simp) (ifB_f (by simp [he.uniq he']) h))) (fun hA=>(he.no hA).elim)
 ·exact bounds11 hl hll hml hr (fun e' he' hne' => (he'.no hA).elim) (fun _=>onSp (ifB_f (by simp) (ifB_f rfl h)))
set_option maxHeartbeats 1000000 in
theorem pairM {l:List Kd} {m:List Bk} {n:Int} {d:Cl} {F:Prop} {G:List (List V)→Prop} (hl : ∀ q∈l,KdR q) (hll:(l.length:Int)≤1000000) (hml:m.length≤1000000) (hr : ∀ b∈m,BkR b) (h : ∀ x:List Bk,x.length≤1000000→G (bkl x)):KB Tryd.prog glX 12 [.lst 3 (kdl l),.agg [.lst 6 (bkl m)],iv n,.agg (clr d)] ⟨[],0,[]⟩ fun v=>onTup v fun vs=>onCons vs fun u r=>onAgg u fun cs=>onCons cs fun u r_13=>onLst u fun s es=>guardB (s.beq 6 || s.beq 0) (onNil r_13 (onCons r fun u r=>onIntK IntKind.i64 u fun n_19=>onNil r (K0G Tryd.prog glX 13 [.lst 3 (kdl l),.agg [.lst 6 (bkl m)],iv n,.agg (clr d)] fun v=>onTup v fun vs=>onCons vs fun u r=>onAgg u fun cs=>onCons cs fun u r_14=>onLst u fun s es_2=>onNil r_14 (onCons r fun u r=>onIntK IntKind.i64 u fun n=>onNil r (K0G Tryd.prog glX 14 [.agg [.lst 6 (sub es 0 es.length)],.agg [.lst s es_2]] fun v=>onBool v fun b=>ifB (!b) F (ifB (n_19 != n) F (G es))))))):=by
 have lf : ∀ {e:Int} {es:List (List V)},G es→ifB (!true) F (ifB (e != e) F (G es)):=fun g=>ifB_f rfl (ifB_f (by simp) g)
 have nil : ∀ {e:Int},ifB (!true) F (ifB (e != e) F (G [])):=lf (h [] (by simp))
 have N : ∀ {e:Int} {k:Nat→List (List V)→Int→Prop},k 0 [] e→onTup (V.tup [V.agg [nilS],iv e]) fun vs=>onCons vs fun u r=>onAgg u fun cs=>onCons cs fun u r_14=>onLst u fun s es_2=>onNil r_14 (onCons r fun u r=>onIntK IntKind.i64 u fun n=>onNil r (k s es_2 n)):=fun hk=>onTup_tup (onCons_cons (onAgg_agg (onCons_cons (onLst_nil (onNil_nil (onCons_cons (onIntK_iv (onNil_nil hk))))))))
 have P : ∀ {e:Int} {k:List (List V)→Int→Prop},k [] e→onTup (V.tup [V.agg [nilS],iv e]) fun vs=>onCons vs fun u r=>onAgg u fun cs=>onCons cs fun u r_13=>onLst u fun s es=>guardB (s.beq 6 || s.beq 0) (onNil r_13 (onCons r fun u r=>onIntK IntKind.i64 u fun n=>onNil r (k es n))):=fun hk=>onTup_tup (onCons_cons (onAgg_agg (onCons_cons (onLst_nil (guardB_mk rfl (onNil_nil (onCons_cons (onIntK_iv (onNil_nil hk)))))))))
 refine move38B hl hll hml hr (fun e he hne=>P ?_) (fun hA hno=>P ?_) (fun hA t hn ht hd hno=>P ?_) (fun hA t hn ht hd hX=>?_)
 ·refine move13 hl hll hml hr (fun e' he' hne' => N (same14n (onBool_bv ?_))) (fun hA _=>(he.no hA).elim) (fun hA=>(he.no hA).elim) (fun hA=>(he.no hA).elim) (fun hA=>(he.no hA).elim)
  rw [he.uniq he']
  exact nil
 ·refine move13 hl hll hml hr (fun e' he' hne' => (he'.no hA).elim) (fun _ _=>N (same14n (onBool_bv nil))) (fun _ t hn ht hd _=>(hno ⟨by omega,hd⟩).elim) (fun _ t hn ht hd _=>(hno ⟨by omega,hd⟩).elim) (fun _ t hn ht hd _=>(hno ⟨by omega,hd⟩).elim)
 ·refine move13 hl hll hml hr (fun e' he' hne' => (he'.no hA).elim) (fun _ q=>(q ⟨by omega,hd⟩).elim) (fun _ _ _ _ _ _=>N (same14n (onBool_bv nil))) (fun _ u hu _ _ hX=>?_) (fun _ u hu _ _ hm=>?_)
  ·have:u=t:=by omega
   subst this
   exact (hno hX).elim
  ·refine (hno (fun b hb=>?_)).elim
   rw [hm] at hb
   simp at hb
 ·refine onTup_tup (onCons_cons (onAgg_agg (onCons_cons (onLst_lst (guardB_mk rfl (onNil_nil (onCons_cons (onIntK_iv (onNil_nil ?_)))))))))
  rw [sub_bk]
  have hlen:(m.map (mvB t d)).length≤1000000:=by rw [List.length_map]; exact hml
  refine move13 hl hll hml hr (fun e' he' hne' => (he'.no hA).elim) (fun _ q=>(q ⟨by omega,hd⟩).elim) (fun _ u hu _ _ hno=>?_) (fun _ u hu _ _ _=>?_) (fun _ u hu _ _ hm=>N ?_)
  ·have:u=t:=by omega
   subst this
   exact (hno hX).elim
  ·have:u=t:=by omega
   subst this
   refine onTup_tup (onCons_cons (onAgg_agg (onCons_cons (onLst_lst (onNil_nil (onCons_cons (onIntK_iv (onNil_nil ?_))))))))
   refine same14 hlen (onBool_bv ?_)
   rw [dc_t rfl]
   exact lf (h _ hlen)
  ·have:m.map (mvB t d)=[]:=by rw [hm]; rfl
   rw [this]
   exact same14n (onBool_bv nil)
set_option maxHeartbeats 1000000 in
theorem law3 {l:List Kd} {m:List Bk} {n:Int} {d:Cl} {R:V→Prop} (hlk : ∀ q∈l, ∀ x∈q.2.1,KnR x) (hr : ∀ b∈m,BkR b) (h:R (bv true)):K0G Tryd.prog glX 3 [.lst 3 (kdl l),.agg [.lst 6 (bkl m)],iv n,.agg (clr d)] R:=by
 refine K0_by hmX hc3 3000 Tryd.func3 (p:=K0G Tryd.prog glX 4 [V.lst 3 (kdl l),V.agg [V.lst 6 (bkl m)]] fun v=>onBool v fun b=>ifB b (R (bv true)) (need ((0+(bkl m).length) * 40≤140737488355328) (K0G Tryd.prog glX 5 [V.lst 3 (kdl l),V.agg [V.lst 6 (sub ([]++bkl m) 0 (0+(bkl m).length))]] fun v=>onTup v fun vs=>onCons vs fun u r=>onLst u fun s es=>onCons r fun u r=>onIntK IntKind.i64 u fun n_1=>onNil r (K0G Tryd.prog glX 6 [V.lst 3 (kdl l),V.agg [V.lst 6 (bkl m)]] fun v=>onTup v fun vs=>onCons vs fun u r=>onLst u fun s_1 es_1=>onCons r fun u r=>onIntK IntKind.i64 u fun n_2=>onNil r (K0G Tryd.prog glX 7 [V.lst s es,V.lst s_1 es_1] fun v=>onBool v fun b=>ifB (!b) (R (bv false)) (ifB (n_1 != n_2) (R (bv false)) (K0G Tryd.prog glX 8 [V.lst 3 (kdl l),V.agg [V.lst 6 (sub ([]++bkl m) 0 (0+(bkl m).length))]] fun v=>onIntK IntKind.i64 v fun n_3=>K0G Tryd.prog glX 9 [V.lst 3 (kdl l),V.agg [V.lst 6 (bkl m)]] fun v=>onIntK IntKind.i64 v fun n_4=>ifB (n_3 != n_4) (R (bv false)) (K0G Tryd.prog glX 10 [V.lst 3 (kdl l),V.agg [V.lst 6 (sub ([]++bkl m) 0 (0+(bkl m).length))]] fun v=>onTup v fun vs=>onCons vs fun u r=>onAgg u fun cs=>onCons cs fun u r_1=>onIntK IntKind.i64 u fun n_5=>onCons r_1 fun u r_2=>onIntK IntKind.i64 u fun n_6=>onCons r_2 fun u r_3=>onIntK IntKind.i64 u fun n_7=>onCons r_3 fun u r_4=>onIntK IntKind.i64 u fun n_8=>onCons r_4 fun u r_5=>onIntK IntKind.i64 u fun n_9=>onCons r_5 fun u r_6=>onIntK IntKind.i64 u fun n_10=>onNil r_6 (onCons r fun u r=>onIntK IntKind.i64 u fun n_11=>onNil r (K0G Tryd.prog glX 11 [V.lst 3 (kdl l),V.agg [V.lst 6 (bkl m)]] fun v=>onTup v fun vs=>onCons vs fun u r=>onAgg u fun cs=>onCons cs fun u r_7=>onIntK IntKind.i64 u fun n_12=>onCons r_7 fun u r_8=>onIntK IntKind.i64 u fun n_13=>onCons r_8 fun u r_9=>onIntK IntKind.i64 u fun n_14=>onCons r_9 fun u r_10=>onIntK IntKind.i64 u fun n_15=>onCons r_10 fun u r_11=>onIntK IntKind.i64 u fun n_16=>onCons r_11 fun u r_12=>onIntK IntKind.i64 u fun n_17=>onNil r_12 (onCons r fun u r=>onIntK IntKind.i64 u fun n_18=>onNil r (ifB (!(fun b=>(fun b=>n_5==n_12&&b) ((fun b=>n_6==n_13&&b) ((fun b=>n_7==n_14&&b) true))&&b) ((fun b=>(fun b=>n_8==n_15&&b) ((fun b=>n_9==n_16&&b) ((fun b=>n_10==n_17&&b) true))&&b) true)) (R (bv false)) (ifB (n_11 != n_18) (R (bv false)) (KB Tryd.prog glX 12 [V.lst 3 (kdl l),V.agg [V.lst 6 (sub ([]++bkl m) 0 (0+(bkl m).length))],iv n,V.agg [iv d.1,iv d.2.1,iv d.2.2]] (Hp.mk [] 0 []) fun v=>onTup v fun vs=>onCons vs fun u r=>onAgg u fun cs=>onCons cs fun u r_13=>onLst u fun s es=>guardB (s.beq 6 || s.beq 0) (onNil r_13 (onCons r fun u r=>onIntK IntKind.i64 u fun n_19=>onNil r (K0G Tryd.prog glX 13 [V.lst 3 (kdl l),V.agg [V.lst 6 (bkl m)],iv n,V.agg [iv d.1,iv d.2.1,iv d.2.2]] fun v=>onTup v fun vs=>onCons vs fun u r=>onAgg u fun cs=>onCons cs fun u r_14=>onLst u fun s es_2=>onNil r_14 (onCons r fun u r=>onIntK IntKind.i64 u fun n=>onNil r (K0G Tryd.prog glX 14 [V.agg [V.lst 6 (sub es 0 es.length)],V.agg [V.lst s es_2]] fun v=>onBool v fun b=>ifB (!b) (R (bv false)) (ifB (n_19 != n) (R (bv false)) (La 0 [(5:Tmp),(9:Tmp),(16:Tmp),(104:Tmp),(105:Tmp)] (WY Tryd.prog cf3 2984 (Env.mk (Bs.mk 0 []) 0 none 121 3 0) (cdAt [1,1,1,1,1,1,1,1,1,1,1,1,0,1,0,0] (bodyOf Tryd.f3))) (Qblk 0 (Qthen (WY Tryd.prog cf3 2987 (Env.mk (Bs.mk 0 []) 0 none 121 3 0) (cdAt [1,1,1,1,1,1,1,1,1,1,1,1,1] (bodyOf Tryd.f3)) (QendX Tryd.prog Tryd.f3 fun v h=>R (frzW h v))) (QendX Tryd.prog Tryd.f3 fun v h=>R (frzW h v)))) (St.mk (mkT [(5,V.ptr (Id.p 0) 0 0),(9,V.ptr (Id.p 1) 0 0),(16,V.ptr (Id.p 2) 0 0),(104,iv (↑es.length:Int)),(105,iv (0:Int))]) (Hp.mk [(0,O.rows 1 false [[V.lst 6 (bkl m)]]),(1,O.rows 1 false [[V.lst 6 (sub ([]++bkl m) 0 (0+(bkl m).length))]]),(2,O.rows 1 false [[V.sl (Id.p 3) 0 es.length]]),(3,O.rows 6 true es)] 4 []))))))))))))))))))))))) (by kernel_rfl) ?_
 refine great12 (onBool_bv (ifB_mk (fun _=>h) (fun c1=>?_)))
 obtain ⟨hl20,hl⟩:=greatK (dc_false c1) hlk
 have hm45:=great45 (dc_false c1)
 have hll:(l.length:Int)≤1000000:=by omega
 have hml:m.length≤1000000:=by omega
 refine need_mk ⟨by rw [bkl_length]; omega,?_⟩
 rw [own_eq]
 refine pairO hl hll (by omega) hr ?_
 refine pairC hl hll hml hr ?_
 refine pairB hl hll hml hr ?_
 refine pairM hl hll hml hr (fun x hx=>?_)
 rw [bkl_length]
 exact see (by kernel_rfl) (tail3 (m:=m) (x:=x) (R:=R) hml hx h)
end Go.Proofs.YtbionhgjgcpogaaDoor
namespace Go.Proofs.YtbionhgjgcpogaaDoor.Clean
open Go.Deep
set_option linter.unusedSimpArgs false
set_option linter.unusedVariables false
section
variable {H:Type} (enc:TypeId×Value→H) (P:Program) (w:World)
def FW (r:Nat):Prop:=r<w.heap.size
def Opens (t:TypeId) {α:Type} (f:α→List V) (ok:α→Prop):Prop :=
 ∀ fuel cs x,DataW.trod enc P w 0 (fun _=>true) true fuel t cs=some x → ∃ a,riL (FW w) w (f a) cs∧ok a ∧ ∀ u∈cs,u.oneCell' = true
def OpensF (total:Nat) (off:Nat) (fs:List Field) {α:Type} (f:α→List V) (ok:α→Prop):Prop :=
 ∀ n (cs:List Value),cs.length=total→(∀ fd∈fs, ∃ x,DataW.trod enc P w 0 (fun _=>true) true n fd.type ((cs.drop fd.offset).take (P.cellsOf fd.type))=some x) →
  ∃ a,riL (FW w) w (f a) (cs.drop off)∧ok a ∧ ∀ u∈cs.drop off,u.oneCell' = true
end
section
variable {H:Type} {enc:TypeId×Value→H} {P:Program} {w:World}
theorem riL_append : ∀ {vs us:List V} {xs ys:List Value},riL (FW w) w vs xs→riL (FW w) w us ys→riL (FW w) w (vs++us) (xs++ys)
 | [],us,xs,ys,h,k=>by simp only [riL] at h; subst h; simpa using k
 | v::vs,us,xs,ys,h,k=>by
  simp only [riL] at h
  obtain ⟨x,zs,rfl,h2,h3⟩:=h
  simp only [List.cons_append,riL]
  exact ⟨x,zs++ys,rfl,h2,riL_append h3 k⟩
theorem riL_one {v:V} {x:Value} (h:ri (FW w) w v x):riL (FW w) w [v] [x]:=by simp only [riL]; exact ⟨x,[],rfl,h,rfl⟩
theorem riL_get : ∀ {vs:List V} {xs:List Value},riL (FW w) w vs xs → ∀ (i:Nat) v,vs[i]? = some v → ∃ x,xs[i]? = some x∧ri (FW w) w v x
 | [],xs,h,i,v,hi=>by simp at hi
 | u::vs,xs,h,i,v,hi=>by
  simp only [riL] at h
  obtain ⟨x,ys,rfl,h2,h3⟩:=h
  cases i with
  | zero=>simp at hi; subst hi; exact ⟨x,rfl,h2⟩
  | succ i=>simp at hi; simpa using riL_get h3 i v hi
theorem riL_length : ∀ {vs:List V} {xs:List Value},riL (FW w) w vs xs→xs.length=vs.length
 | [],xs,h=>by simp only [riL] at h; simp [h]
 | v::vs,xs,h=>by simp only [riL] at h; obtain ⟨x,ys,rfl,_,h3⟩:=h; simp [riL_length h3]
theorem opens_int {t:TypeId} {k:IntKind} (ht:P.underlying t=some (.int k)):Opens enc P w t (fun n:Int=>[.raw (.int k n)]) (fun n=>(Lit.int k n).wf=true):=by
 intro fuel cs x h
 obtain ⟨n,rfl,_,hw⟩:=DataW.trod_int ht h
 exact ⟨n,riL_one (by simp [ri]),hw,by simp [Value.oneCell']⟩
theorem opens_slice {t e:TypeId} {s:Nat} {α:Type} {f:α→List V} {ok:α→Prop} (ht:P.underlying t=some (.slice e)) (hs:P.cellsOf e=s) (hpos:s≠0) (ho:Opens enc P w e f ok) :
  Opens enc P w t (fun l:List α=>[.lst s (l.map f)]) (fun l=>l.length≤maxLen ∧ ∀ a∈l,ok a):=by
 intro fuel cs x h
 rcases open_slice ht h with ⟨rfl,_⟩ | ⟨a,len,cap,m,n,D,Pl,rfl,_,hl,hm,hmm,_,hx⟩
 ·exact ⟨[],riL_one (by simp [ri]),by simp,by simp [Value.oneCell']⟩
 ·simp only [if_true] at hmm
  subst hmm
  rw [hs] at hx
  have each : ∀ i,i<len → ∃ q:α,(∃ cs', w.cells? 0 (a.add (i * s)) s=some cs' ∧ riL (FW w) w (f q) cs' ∧ ∀ u∈cs', u.oneCell' = true)∧ok q:=by
   intro i hi
   obtain ⟨cs', h1,h2⟩:=hx i (by omega)
   obtain ⟨q,h3,h4,h5⟩:=ho _ _ _ h2
   exact ⟨q,⟨cs', h1,h3,h5⟩,h4⟩
  obtain ⟨q,hq⟩ : ∃ q:Nat→Option α, ∀ i,i<len → ∃ y,q i=some y∧(∃ cs', w.cells? 0 (a.add (i * s)) s=some cs' ∧ riL (FW w) w (f y) cs' ∧ ∀ u∈cs', u.oneCell' = true)∧ok y:=by
   refine Classical.axiomOfChoice (r:=fun i (o:Option α)=>i<len → ∃ y,o=some y∧(∃ cs', w.cells? 0 (a.add (i * s)) s=some cs' ∧ riL (FW w) w (f y) cs' ∧ ∀ u∈cs', u.oneCell' = true)∧ok y) ?_
   intro i
   by_cases hi:i<len
   ·obtain ⟨y,hy⟩:=each i hi
    exact ⟨some y,fun _=>⟨y,rfl,hy⟩⟩
   ·exact ⟨none,fun h=>(hi h).elim⟩
  let l:List α:=(List.range len).filterMap q
  have hl' : l.length=len ∧ ∀ i,i<len→l[i]? = q i:=by
   have key : ∀ k,k≤len→((List.range k).filterMap q).length=k ∧ ∀ i,i<k→((List.range k).filterMap q)[i]? = q i:=by
    intro k
    induction k with
    | zero=>intro _; simp
    | succ k ih =>
     intro hk
     obtain ⟨h1,h2⟩:=ih (by omega)
     obtain ⟨y,hy,_⟩:=hq k (by omega)
     have:(List.range (k+1)).filterMap q=(List.range k).filterMap q++[y]:=by rw [List.range_succ,List.filterMap_append]; simp [hy]
     rw [this]
     refine ⟨by simp [h1],fun i hi=>?_⟩
     by_cases hik:i<k
     ·rw [List.getElem?_append_left (by omega)]; exact h2 i hik
     ·have:i=k:=by omega
      subst this
      rw [List.getElem?_append_right (by omega),h1,hy]; simp
   exact key len (Nat.le_refl _)
  refine ⟨l,riL_one ?_,⟨by omega,fun b hb=>?_⟩,by simp [Value.oneCell']⟩
  ·simp only [ri]
   refine .inr ⟨a,m,by simp [hl'.1]; exact hl,by simp [hl'.1],?_⟩
   by_cases h0:len=0
   ·left
    have:l=[]:=List.eq_nil_of_length_eq_zero (by omega)
    simp [this]
   ·right
    have cell : ∀ (i:Nat) (cs' : List Value),i<len→w.cells? 0 (a.add (i * s)) s=some cs' → ∀ j,j<s→w.cell? (a.add (i * s+j))=cs'[j]? ∧ cs'.length=s:=by
     intro i cs' hi hc j hj
     obtain ⟨_,hlen,hcc⟩:=World.cells?_some hc
     have:=hcc j hj
     rw [add_add] at this
     exact ⟨this,hlen⟩
    obtain ⟨y0,hy0,⟨cs0,c1,_,_⟩,_⟩:=hq 0 (by omega)
    have hc0:=(cell 0 cs0 (by omega) c1 0 (by omega))
    have hsome : ∃ u,w.cell? a=some u:=by
     have h1:=hc0.1
     rw [Nat.zero_mul,Nat.zero_add] at h1
     have:a.add 0=a:=by simp [Addr.add]
     rw [this] at h1
     rw [h1]
     exact ⟨cs0[0]'(by omega),List.getElem?_eq_getElem (by omega)⟩
    obtain ⟨u0,hu0⟩:=hsome
    have hspot:a.spot=none:=by
     unfold World.cell? at hu0
     split at hu0
     ·split at hu0
      ·cases hu0
      ·rename_i h; simpa using h
     ·cases hu0
    obtain ⟨ab,ao,asp⟩:=a
    simp only at hspot
    subst hspot
    refine ⟨rfl,World.block_lt_of_cell? w _ hu0,?_⟩
    rw [riRows_iff]
    intro i row hrow
    rw [List.getElem?_map,Option.map_eq_some_iff] at hrow
    obtain ⟨b,hb,rfl⟩:=hrow
    have hi:i<len:=by have:=(List.getElem?_eq_some_iff.1 hb).1; omega
    obtain ⟨y,hy,⟨cs', g1,g2,g3⟩,_⟩:=hq i hi
    rw [hl'.2 i hi,hy] at hb
    simp at hb
    subst hb
    have hlen' := riL_length g2
    obtain ⟨_,hclen,_⟩:=World.cells?_some g1
    refine ⟨by omega,fun j v hj=>?_⟩
    obtain ⟨z,z1,z2⟩:=riL_get g2 j v hj
    have hjs:j<s:=by have:=(List.getElem?_eq_some_iff.1 z1).1; omega
    refine ⟨z,?_,g3 z (List.mem_of_getElem? z1),z2⟩
    have:=(cell i cs' hi g1 j hjs).1
    rw [add_lit,← Nat.add_assoc] at this
    rw [this]; exact z1
  ·obtain ⟨i,hi⟩:=List.mem_iff_getElem?.1 hb
   have hil:i<len:=by have:=(List.getElem?_eq_some_iff.1 hi).1; omega
   obtain ⟨y,hy,_,hok⟩:=hq i hil
   rw [hl'.2 i hil,hy] at hi
   simp at hi
   exact hi ▸ hok
theorem opensF_nil {total:Nat}:OpensF enc P w total total [] (fun _:Unit=>[]) (fun _=>True):=by
 intro n cs hl _
 rw [List.drop_of_length_le (by omega)]
 exact ⟨(),by simp [riL],trivial,by simp⟩
theorem opensF_cons {total off k:Nat} {fd:Field} {fs:List Field} {α β:Type} {f:α→List V} {g:β→List V} {ok:α→Prop} {ok' : β→Prop} (ho:fd.offset=off) (hk:P.cellsOf fd.type=k)
  (h1:Opens enc P w fd.type f ok) (h2:OpensF enc P w total (off+k) fs g ok'):OpensF enc P w total off (fd::fs) (fun x:α×β=>f x.1++g x.2) (fun x=>ok x.1∧ok' x.2):=by
 intro n cs hl hf
 obtain ⟨x,hx⟩:=hf fd (by simp)
 rw [ho,hk] at hx
 obtain ⟨a,a1,a2,a3⟩:=h1 _ _ _ hx
 obtain ⟨b,b1,b2,b3⟩:=h2 n cs hl (fun fd' h' => hf fd' (by simp [h']))
 have hsplit:cs.drop off=(cs.drop off).take k++cs.drop (off+k):=by rw [← List.drop_drop,List.take_append_drop]
 refine ⟨(a,b),?_,⟨a2,b2⟩,?_⟩
 ·rw [hsplit]; exact riL_append a1 b1
 ·rw [hsplit]
  intro u hu
  rcases List.mem_append.1 hu with hu | hu
  ·exact a3 u hu
  ·exact b3 u hu
theorem opens_struct {t:TypeId} {fs:Array Field} {total:Nat} {α:Type} {f:α→List V} {ok:α→Prop} (ht:P.underlying t=some (.struct fs)) (hc:P.cellsOf t=total) (h:OpensF enc P w total 0 fs.toList f ok):Opens enc P w t f ok:=by
 intro fuel cs x hx
 obtain ⟨xs,n,_,_,hl,hxl,hf⟩:=DataW.trod_struct ht hx
 have:=h n cs (by omega) (fun fd hfd=>by
  obtain ⟨i,hi⟩:=List.mem_iff_getElem?.1 hfd
  have hi' : fs[i]? = some fd:=by simpa using hi
  have:=hf i fd hi'
  have hil:i<xs.length:=by rw [hxl]; exact lt_of_some hi'
  rw [List.getElem?_eq_getElem hil] at this
  exact ⟨_,this⟩)
 simpa using this
theorem arg_int {t:TypeId} {k:IntKind} {v:Value} {d:DataW H} {p:List MemPlace} {r:Reach} {b0:Nat} (ht:P.underlying t=some (.int k)) (hval:Value.okWide P w r b0 t v) (h:DataW.Trod enc P w 0 (fun _=>true) true t v d p) :
  ∃ n,ri (FW w) w (.raw (.int k n)) v∧(Lit.int k n).wf=true:=by
 obtain ⟨n,rfl,_,_,hw⟩:=ChangeShapes.open_int ht hval h
 exact ⟨n,by simp [ri],hw⟩
theorem arg_slice {t e:TypeId} {v:Value} {d:DataW H} {p:List MemPlace} {r:Reach} {b0:Nat} {α:Type} {f:α→V} {ok:α→Prop} (ht:P.underlying t=some (.slice e)) (hval:Value.okWide P w r b0 t v) (h:DataW.Trod enc P w 0 (fun _=>true) true t v d p)
  (ho:Opens enc P w t (fun a=>[f a]) ok) : ∃ a,ri (FW w) w (f a) v∧ok a:=by
 obtain ⟨a,len,cap,rfl⟩:=WideShapes.okWide_slice ht hval
 obtain ⟨fuel,hf⟩:=h
 obtain ⟨y,h1,h2,_⟩:=ho _ _ _ hf
 simp only [Value.cells,riL] at h1
 obtain ⟨x,xs,hx,h3,_⟩:=h1
 simp at hx
 exact ⟨y,by rw [hx.1]; exact h3,h2⟩
theorem arg_struct {t:TypeId} {fs:Array Field} {v:Value} {d:DataW H} {p:List MemPlace} {r:Reach} {b0:Nat} {α:Type} {f:α→List V} {ok:α→Prop} (ht:P.underlying t=some (.struct fs)) (hval:Value.okWide P w r b0 t v) (h:DataW.Trod enc P w 0 (fun _=>true) true t v d p)
  (ho:Opens enc P w t f ok) : ∃ a,ri (FW w) w (.agg (f a)) v∧ok a:=by
 obtain ⟨cs,rfl,_⟩:=WideShapes.okWide_struct ht hval
 obtain ⟨fuel,hf⟩:=h
 obtain ⟨y,h1,h2,_⟩:=ho _ _ _ hf
 exact ⟨y,by simp only [ri]; exact ⟨cs,rfl,h1⟩,h2⟩
end
end Go.Proofs.YtbionhgjgcpogaaDoor.Clean
namespace Go.Proofs.YtbionhgjgcpogaaDoor.Clean
set_option linter.unusedVariables false
set_option linter.unusedSimpArgs false
mutual
def litC {H:Type} (P:Program):Nat→TypeId→DataW H→Option (List V)
 | 0,_,_=>none
 | f+1,t,d=>match P.underlying t with
  | some (.int k)=>match d with
   | .lit (.int k' n)=>some [.raw (.int k n)]
   | _=>none
  | some (.struct fs)=>match d with
   | .agg xs=>litF P f (P.cellsOf t) fs.toList xs 0
   | _=>none
  | some (.array n e)=>match d with
   | .agg xs=>if P.cellsOf t=n * P.cellsOf e then litA P f e xs else none
   | _=>none
  | _=>none
def litF {H:Type} (P:Program):Nat→Nat→List Field→List (DataW H)→Nat→Option (List V)
 | 0,_,_,_,_=>none
 | _+1,n,[],[],o=>if n=o then some [] else none
 | f+1,n,fd::fs,x::xs,o=>if fd.offset=o then (litC P f fd.type x).bind fun a=>(litF P f n fs xs (o+P.cellsOf fd.type)).bind fun b=>if a.length=P.cellsOf fd.type then some (a++b) else none else none
 | _,_,_,_,_=>none
def litA {H:Type} (P:Program):Nat→TypeId→List (DataW H)→Option (List V)
 | 0,_,_=>none
 | _+1,_,[]=>some []
 | f+1,e,x::xs=>(litC P f e x).bind fun a=>(litA P f e xs).bind fun b=>if a.length=P.cellsOf e then some (a++b) else none
end
section
variable {H:Type} {enc:TypeId×Value→H} {P:Program} {w:World} {b0:Nat} {sp:Nat→Bool} {held:Bool}
def CellsOK (w:World) (vs:List V) (cs:List Value):Prop:=cs.length=vs.length ∧ ∀ (i:Nat) v x,vs[i]? = some v→cs[i]? = some x→x.oneCell' = true∧ri (FW w) w v x
theorem CellsOK.append {vs us:List V} {cs ds:List Value} (h:CellsOK w vs cs) (k:CellsOK w us ds):CellsOK w (vs++us) (cs++ds):=by
 refine ⟨by simp [h.1,k.1],fun i v x hv hx=>?_⟩
 by_cases hi:i<vs.length
 ·rw [List.getElem?_append_left hi] at hv
  rw [List.getElem?_append_left (by rw [h.1]; exact hi)] at hx
  exact h.2 i v x hv hx
 ·rw [List.getElem?_append_right (by omega)] at hv
  rw [List.getElem?_append_right (by rw [h.1]; omega),h.1] at hx
  exact k.2 _ v x hv hx
theorem take_split (cs:List Value) (o n:Nat):cs.drop o=(cs.drop o).take n++cs.drop (o+n):=by rw [← List.drop_drop,List.take_append_drop]
theorem lit_ok (f:Nat) :
  (∀ (t:TypeId) (d:DataW H) (vs:List V),litC P f t d=some vs → ∀ fuel cs x,DataW.trod enc P w b0 sp held fuel t cs=some x→x.1=d→CellsOK w vs cs) ∧
  (∀ (fs:List Field) (xs:List (DataW H)) (o:Nat) (vs:List V) (cs:List Value),litF P f cs.length fs xs o=some vs → ∀ m (ys:List (DataW H×List MemPlace)),ys.map (·.1)=xs→(∀ (i:Nat) fd,fs[i]? = some fd→DataW.trod enc P w b0 sp held m fd.type ((cs.drop fd.offset).take (P.cellsOf fd.type))=ys[i]?)→CellsOK w vs (cs.drop o)) ∧
  (∀ (e:TypeId) (xs:List (DataW H)) (o:Nat) (vs:List V) (cs:List Value),litA P f e xs=some vs→cs.length=o+xs.length * P.cellsOf e → ∀ m (ys:List (DataW H×List MemPlace)),ys.map (·.1)=xs→(∀ (i:Nat),i<xs.length→DataW.trod enc P w b0 sp held m e ((cs.drop (o+i * P.cellsOf e)).take (P.cellsOf e))=ys[i]?)→CellsOK w vs (cs.drop o)):=by
 induction f with
 | zero=>exact ⟨fun t d vs h=>by simp [litC] at h,fun fs xs o vs cs h=>by simp [litF] at h,fun e xs o vs cs h=>by simp [litA] at h⟩
 | succ f ih =>
  obtain ⟨ihC,ihF,ihA⟩:=ih
  refine ⟨fun t d vs h fuel cs x hx hd=>?_,fun fs xs o vs cs h m ys hys hf=>?_,fun e xs o vs cs h hl m ys hys hf=>?_⟩
  ·simp only [litC] at h
   split at h
   ·rename_i k hk
    split at h
    ·rename_i k' n
     cases h
     obtain ⟨m,rfl,h2,_⟩:=DataW.trod_int hk hx
     have hxd:x.1 = .lit (.int k m):=by rw [h2]
     rw [hd] at hxd
     simp only [DataW.lit.injEq,Lit.int.injEq] at hxd
     obtain ⟨_,rfl⟩:=hxd
     refine ⟨rfl,fun i v x hv hx=>?_⟩
     cases i with
     | zero=>simp at hv hx; subst hv; subst hx; exact ⟨rfl,by simp [ri]⟩
     | succ i=>simp at hv
    ·cases h
   ·rename_i fs hs
    split at h
    ·rename_i xs
     obtain ⟨ys,n,_,hy,hl,hyl,hf⟩:=DataW.trod_struct hs hx
     have hxs:ys.map (·.1)=xs:=by
      have:=hd
      rw [hy] at this
      simpa using this
     rw [← hl] at h
     have:=ihF fs.toList xs 0 vs cs h n ys hxs (fun i fd hi=>hf i fd (by simpa using hi))
     simpa using this
    ·cases h
   ·rename_i n e ha
    split at h
    ·rename_i xs
     split at h
     ·rename_i hn
      obtain ⟨ys,m,_,hy,hl,hyl,hf⟩:=DataW.trod_array ha hx
      have hxs:ys.map (·.1)=xs:=by
       have:=hd
       rw [hy] at this
       simpa using this
      have hxl:xs.length=n:=by rw [← hxs]; simpa using hyl
      have:=ihA e xs 0 vs cs h (by rw [hl,hn,hxl]; omega) m ys hxs (fun i hi=>by rw [Nat.zero_add]; exact hf i (by omega))
      simpa using this
     ·cases h
    ·cases h
   ·cases h
  ·cases fs with
   | nil =>
    cases xs with
    | nil =>
     simp only [litF] at h
     split at h
     ·rename_i hn
      cases h
      subst hn
      refine ⟨by simp,fun i v x hv hx=>by simp at hv⟩
     ·cases h
    | cons x xs=>simp [litF] at h
   | cons fd fs =>
    cases xs with
    | nil=>simp [litF] at h
    | cons x xs =>
     simp only [litF] at h
     split at h
     ·rename_i ho
      cases ha:litC P f fd.type x with
      | none=>rw [ha] at h; cases h
      | some a =>
       cases hb:litF P f cs.length fs xs (o+P.cellsOf fd.type) with
       | none=>rw [ha,hb] at h; cases h
       | some b =>
        rw [ha,hb] at h
        simp only [Option.bind_some] at h
        split at h
        ·rename_i hal
         cases h
         cases ys with
         | nil=>simp at hys
         | cons y ys =>
          simp only [List.map_cons,List.cons.injEq] at hys
          have h0:=hf 0 fd rfl
          rw [ho] at h0
          rw [take_split cs o (P.cellsOf fd.type)]
          exact (ihC _ _ _ ha _ _ _ h0 hys.1).append (ihF fs xs _ b cs hb m ys hys.2 (fun i fd' hi=>hf (i+1) fd' (by simpa using hi)))
        ·cases h
     ·cases h
  ·cases xs with
   | nil =>
    simp only [litA,Option.some.injEq] at h
    subst h
    refine ⟨by simp at hl ⊢; omega,fun i v x hv hx=>by simp at hv⟩
   | cons x xs =>
    simp only [litA] at h
    cases ha:litC P f e x with
    | none=>rw [ha] at h; cases h
    | some a =>
     cases hb:litA P f e xs with
     | none=>rw [ha,hb] at h; cases h
     | some b =>
      rw [ha,hb] at h
      simp only [Option.bind_some] at h
      split at h
      ·rename_i hal
       cases h
       cases ys with
       | nil=>simp at hys
       | cons y ys =>
        simp only [List.map_cons,List.cons.injEq] at hys
        have h0:=hf 0 (by simp)
        rw [Nat.zero_mul,Nat.add_zero] at h0
        rw [take_split cs o (P.cellsOf e)]
        refine (ihC _ _ _ ha _ _ _ h0 hys.1).append (ihA e xs _ b cs hb (by rw [hl,List.length_cons,Nat.add_mul]; omega) m ys hys.2 (fun i hi=>?_))
        have:=hf (i+1) (by simpa using hi)
        rw [Nat.add_mul,Nat.one_mul] at this
        rw [show o+P.cellsOf e+i * P.cellsOf e=o+(i * P.cellsOf e+P.cellsOf e) by omega]
        simpa using this
      ·cases h
end
structure LaidOne (P:Program) (g:Nat) (n:String) (d:DataW Unit) (vs:List V):Prop where
 name:P.globalNamed n=some g
 cells:(((P.globals[g]?).map (·.type)).bind fun t=>litC P 64 t d)=some vs
theorem riCells_of {F:Nat→Prop} {w:World} {b:Nat} : ∀ (vs:List V) (o:Nat),(∀ i v,vs[i]? = some v → ∃ x,w.cell? ⟨b,o+i,none⟩=some x∧x.oneCell' = true∧ri F w v x)→riCells F w b vs o
 | [],o,_=>by simp only [riCells]
 | v::vs,o,h=>by
  simp only [riCells]
  refine ⟨by simpa using h 0 v rfl,riCells_of vs (o+1) fun i v hi=>?_⟩
  have:=h (i+1) v (by simpa using hi)
  rwa [show o+(i+1)=o+1+i by omega] at this
theorem laid_adr {P:Program} {w:World} {laid:List (String×DataW Unit)} (hp:(laid.all fun x=>x.2.handleName?.isNone)=true) (h:laidMetH P laid w) {g:Nat} {n:String} {d:DataW Unit} {vs:List V} (hm:(n,d)∈laid) (ho:LaidOne P g n d vs) (hne:vs≠[]) :
  ri (FW w) w (.adr vs 0) (.pointer (some ⟨g,0,none⟩)):=by
 rw [MakeChecks.laidMetH_plain _ _ _ hp] at h
 obtain ⟨ps,hl,_⟩:=h
 have key : ∀ (l:List (String×DataW Unit)) (ps:List MemPlace),DataW.LaidVars P w l ps→(n,d)∈l → ∃ t cs fuel p,(P.globals[g]?).map (·.type)=some t∧w.var? P n=some cs∧DataW.trod (fun _=>()) P w 0 (fun _=>true) false fuel t cs.toList=some (d,p):=by
  intro l
  induction l with
  | nil=>intro ps _ hm; cases hm
  | cons a r ih =>
   obtain ⟨n', d'⟩:=a
   intro ps hl hm
   obtain ⟨g', t,cs,fuel,p,q,h1,h2,h3,h4,h5,_⟩:=hl
   rcases List.mem_cons.1 hm with he | he
   ·cases he
    obtain rfl:=Option.some.inj (ho.name.symm.trans h1)
    exact ⟨t,cs,fuel,p,h2,h3,h4⟩
   ·exact ih q h5 he
 obtain ⟨t,cs,fuel,p,h1,h2,h3⟩:=key laid ps hl hm
 have k2:=ho.cells
 rw [h1,Option.bind_some] at k2
 have hc:=(lit_ok 64).1 _ _ _ k2 _ _ _ h3 rfl
 have hv:=World.var?_cell ho.name h2
 simp only [ri]
 have cell : ∀ i v,vs[i]? = some v → ∃ x,w.cell? ⟨g,0+i,none⟩=some x∧x.oneCell' = true∧ri (FW w) w v x:=by
  intro i v hi
  have hlt:i<vs.length:=(List.getElem?_eq_some_iff.1 hi).1
  have hlt' : i<cs.toList.length:=by rw [hc.1]; exact hlt
  obtain ⟨q1,q2⟩:=hc.2 i v _ hi (List.getElem?_eq_getElem hlt')
  refine ⟨cs.toList[i],?_,q1,q2⟩
  rw [Nat.zero_add,hv i]
  simp at hlt' ⊢
 refine ⟨g,0,by simp,?_,riCells_of vs 0 cell⟩
 obtain ⟨v,r,rfl⟩:=List.exists_cons_of_ne_nil hne
 obtain ⟨x,hx,_⟩:=cell 0 v rfl
 show g<w.heap.size
 simp only [World.cell?] at hx
 cases hh:w.heap[0+g]? with
 | none=>rw [Nat.zero_add] at hh; rw [hh] at hx; simp at hx
 | some o=>rw [Nat.zero_add] at hh; exact lt_of_some hh
end Go.Proofs.YtbionhgjgcpogaaDoor.Clean
