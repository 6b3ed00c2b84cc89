/- A part of the proof. -/
import Derived.Test.YtmddjopahcbefabGreatProg
import Derived.ProofKit
import Derived.Deep.Slices
import Derived.Carry
import Derived.Test.YtmddjopahcbefabGreatXV3G7
import Derived.Test.YtmddjopahcbefabGreatXV3G10
import Derived.Test.YtmddjopahcbefabGreatXV3G11
import Derived.Test.YtmddjopahcbefabGreatXV3G12
import Derived.Test.YtmddjopahcbefabGreatXV3G13
import Derived.Test.YtmddjopahcbefabGreatXV3G14
namespace Go.Proofs.YtmddjopahcbefabGreat
open Go Go.Proofs.YtmddjopahcbefabGreat.Clean
set_option linter.unusedVariables false
set_option maxRecDepth 100000
theorem tok0:Facts Tryz.prog glX tb0:=trivial
theorem t0:KFX fa0:=k0 tok0
theorem tok1:Facts Tryz.prog glX tb1:=⟨t0,tok0⟩
theorem t1:KFX fa1:=k1 tok1
theorem tok2:Facts Tryz.prog glX tb2:=⟨t1,tok1⟩
theorem t2:KFX fa2:=k2 tok2
theorem tok3:Facts Tryz.prog glX tb3:=⟨t2,tok2⟩
theorem t3:KFX fa3:=k3 tok3
theorem tok4:Facts Tryz.prog glX tb4:=⟨t3,tok3⟩
theorem t4:KFX fa4:=k4 tok4
theorem tok5:Facts Tryz.prog glX tb5:=⟨t4,tok4⟩
theorem t5:KFX fa5:=k5 tok5
def moL (f:FuncId):Nat:=bif f.beq 12 then 1 else 0
noncomputable def cfL:Cfg:={ cfgG Tryz.prog glX moL postSM rtSM (inN []) kpS with fz:=fun f t=>f.beq 3&&t.beq 20 }
noncomputable def sh3 (a b:List It) (p:List (List It)) (v:List Int) (n:Int) (w:List Nat) (z:Int) (k:Nat):St:=⟨mkT [(0,V.lst 3 (itl a)),(1,V.lst 3 (itl b)),(2,V.lst 1 (pll p)),(3,V.lst 1 (nl v)),(9,bv true),(11,iv n),(13,iv z),(87,V.lst 1 (ul w)),(88,iv ((ul w).length:Int)),(89,iv (k:Int))],⟨[],0,[]⟩⟩
set_option linter.unusedSimpArgs false
set_option maxRecDepth 10000
theorem hcLw:cfL.ok Tryz.prog:=by
 have h:(cfgG Tryz.prog glX moL postSM rtSM (inN []) kpS).ok Tryz.prog:=cfgG_ok rtS_okM
 exact ⟨h.1,h.2⟩
theorem check37ok {l:List It} {R:V→Prop} (hs:Stk l) (h:R (iv 0)):K0G Tryz.prog glX 37 [.lst 3 (itl l)] R:=check13M (by
 unfold stkEM
 rw [if_pos (dc_tM (show StkM l from hs))]
 exact h)
theorem checkAllok {p:List (List It)} {R:V→Prop} (hp:p.length≤1000) (hs : ∀ l∈p,Stk l) (h:R (iv 0)):K0G Tryz.prog glX 29 [.lst 1 (pll p)] R:=by
 refine K0_of_WY0 hmX hcM 3000 Tryz.func29 (see (p:=La 0 [(6:Tmp),(7:Tmp),(8:Tmp)] (WY Tryz.prog cfM 2995 (Env.mk (Bs.mk 0 []) 0 none 18 29 0) (cdAt [1,0,1,0,0] (bodyOf Tryz.f29))) (Qblk 0 (Qthen (WY Tryz.prog cfM 2998 (Env.mk (Bs.mk 0 []) 0 none 18 29 0) (cdAt [1,1] (bodyOf Tryz.f29)) (QendX Tryz.prog Tryz.f29 fun v h=>R (frzW h v))) (QendX Tryz.prog Tryz.f29 fun v h=>R (frzW h v)))) (St.mk (mkT [(6,V.lst 1 (pll p)),(7,iv (↑(pll p).length:Int)),(8,iv (0:Int))]) (Hp.mk [] 0 []))) (by kernel_rfl) ?_)
 refine La.of (σ:=Nat) (fun k=>sh42 p k) (fun k=>k≤p.length) (fun k=>p.length - k) 0 (by kernel_rfl) (by omega) ?_
 rintro k g1 J hJ
 refine see (p:=ifB (decide ((↑k:Int)<(↑(pll p).length:Int))) (onSome (pll p)[k]? fun row=>onSome row[0]? fun v=>onLst v fun s es=>K0G Tryz.prog glX 37 [V.lst s es] fun v=>onIntK IntKind.i64 v fun n=>ifB (n != (0:Int)) (R (iv n)) (J (St.mk (mkT [(6,V.lst 1 (pll p)),(7,iv (↑(pll p).length:Int)),(8,iv (IntKind.i64.wrap ((↑k:Int)+(1:Int))))]) (Hp.mk [] 0 [])))) (R (iv (0:Int)))) (by kernel_rfl) ?_
 simp only [pll_length]
 refine ifB_mk (fun hb=>?_) (fun hb=>h)
 have hlt:k<p.length:=by have:=of_decide_eq_true hb; omega
 obtain ⟨l,hl⟩ : ∃ x,p[k]? = some x:=⟨p[k],by simp [hlt]⟩
 refine pll_get hl (check37ok (hs l (List.mem_of_getElem? hl)) (onIntK_iv (ifB_f rfl ?_)))
 rw [wr1i hlt (by omega)]
 refine hJ' ?_ (hJ (k+1) hlt (by omega))
 simp [sh42,pll_length]
theorem checkPlansok {p:List (List It)} {v:List Int} {R:V→Prop} (h1:p.length≤8) (h2:v.length=p.length) (h3 : ∀ x∈v,0≤x∧x≤1000) (h:R (iv 0)):K0G Tryz.prog glX 30 [.lst 1 (pll p),.lst 1 (nl v)] R:=by
 refine K0_of_WY0 hmX hcM 3000 Tryz.func30 (see (p:=ifB (decide ((↑(pll p).length:Int) > (8:Int))) (R (iv (4:Int))) (ifB ((↑(nl v).length:Int) != (↑(pll p).length:Int)) (R (iv (2:Int))) (La 0 [(15:Tmp),(16:Tmp),(17:Tmp)] (WY Tryz.prog cfM 2993 (Env.mk (Bs.mk 0 []) 0 none 25 30 0) (cdAt [1,1,1,0,1,0,0] (bodyOf Tryz.f30))) (Qblk 0 (Qthen (WY Tryz.prog cfM 2996 (Env.mk (Bs.mk 0 []) 0 none 25 30 0) (cdAt [1,1,1,1] (bodyOf Tryz.f30)) (QendX Tryz.prog Tryz.f30 fun v h=>R (frzW h v))) (QendX Tryz.prog Tryz.f30 fun v h=>R (frzW h v)))) (St.mk (mkT [(15,V.lst 1 (nl v)),(16,iv (↑(nl v).length:Int)),(17,iv (0:Int))]) (Hp.mk [] 0 []))))) (by kernel_rfl) ?_)
 have nll : ∀ l:List Int,(nl l).length=l.length:=fun l=>by simp [nl]
 rw [pll_length,nll]
 refine ifB_f (decide_eq_false (by omega)) (ifB_f (by rw [h2]; simp) ?_)
 refine La.of (σ:=Nat) (fun k=>sh49 v k) (fun k=>k≤v.length) (fun k=>v.length - k) 0 (by rw [← nll]; kernel_rfl) (by omega) ?_
 rintro k g1 J hJ
 refine see (p:=ifB (decide ((↑k:Int)<(↑(nl v).length:Int))) (onSome (nl v)[k]? fun row=>onSome row[0]? fun v_1=>onIntK IntKind.i64 v_1 fun n=>ifB (decide ((0:Int)≤n)) (ifB (!decide (n≤(1000:Int))) (R (iv (2:Int))) (J (St.mk (mkT [(15,V.lst 1 (nl v)),(16,iv (↑(nl v).length:Int)),(17,iv (IntKind.i64.wrap ((↑k:Int)+(1:Int))))]) (Hp.mk [] 0 [])))) (R (iv (2:Int)))) (R (iv (0:Int)))) (by kernel_rfl) ?_
 simp only [nll]
 refine ifB_mk (fun hb=>?_) (fun hb=>h)
 have hlt:k<v.length:=by have:=of_decide_eq_true hb; omega
 obtain ⟨x,hx⟩ : ∃ x,v[k]? = some x:=⟨v[k],by simp [hlt]⟩
 have hx3:=h3 x (List.mem_of_getElem? hx)
 refine iel hx (ifB_t (decide_eq_true hx3.1) (ifB_f (by simpa using hx3.2) ?_))
 rw [wr1i hlt (by omega)]
 refine hJ' ?_ (hJ (k+1) hlt (by omega))
 simp [sh49,nll]
theorem choose11ok {bx:List It} {p:List (List It)} {v:List Int} {R:V→Prop} (k1:Stk bx) (k2 : ∀ l∈p,Stk l) (k3:p.length≤8) (k4:v.length=p.length) (k5 : ∀ x∈v,0≤x∧x≤1000)
  (h : ∀ s val l d d1,s<2 ^ p.length→choF p v (bl8 s) 0 bx=some (val,l)→(∀ s' val' l', s' < 2 ^ p.length→choF p v (bl8 s') 0 bx=some (val', l')→val' ≤ val)→R (.tup [.agg [.lst d1 (nn (bl8 s)),iv val,.lst d (itl l)],iv 0])):K0G Tryz.prog glX 11 [.lst 3 (itl bx),.lst 1 (pll p),.lst 1 (nl v)] R:=by
 refine K0_of_WY0 hmX hcM 3000 Tryz.func11 (see (p:=K0G Tryz.prog glX 37 [V.lst 3 (itl bx)] fun v_1=>onIntK IntKind.i64 v_1 fun n=>K0G Tryz.prog glX 29 [V.lst 1 (pll p)] fun v_2=>onIntK IntKind.i64 v_2 fun n_1=>K0G Tryz.prog glX 30 [V.lst 1 (pll p),V.lst 1 (nl v)] fun v_3=>onIntK IntKind.i64 v_3 fun n_2=>ifB (n != (0:Int)) (ifB (n != (0:Int)) (R (V.tup [V.agg [nilS,iv (0:Int),nilS],iv n])) (K0G Tryz.prog glX 32 [V.lst 3 (itl bx),V.lst 1 (pll p),V.lst 1 (nl v)] fun v=>onLst v fun s es=>K0G Tryz.prog glX 38 [V.lst s es,V.fn (Fn.func 39) [] []] fun v=>onAgg v fun cs=>onCons cs fun u r=>onIntK IntKind.u8 u fun n=>onCons r fun u r=>onIntK IntKind.i64 u fun n_3=>onCons r fun u r=>onLst u fun s es=>onNil r (K0G Tryz.prog glX 40 [V.raw (Value.int IntKind.u8 n)] fun v=>onLst v fun s_1 es_1=>R (V.tup [V.agg [V.lst s_1 es_1,iv n_3,V.lst s es],iv (0:Int)])))) (ifB (n_1 != (0:Int)) (ifB (n_1 != (0:Int)) (R (V.tup [V.agg [nilS,iv (0:Int),nilS],iv n_1])) (K0G Tryz.prog glX 32 [V.lst 3 (itl bx),V.lst 1 (pll p),V.lst 1 (nl v)] fun v=>onLst v fun s es=>K0G Tryz.prog glX 38 [V.lst s es,V.fn (Fn.func 39) [] []] fun v=>onAgg v fun cs=>onCons cs fun u r=>onIntK IntKind.u8 u fun n=>onCons r fun u r=>onIntK IntKind.i64 u fun n_3=>onCons r fun u r=>onLst u fun s es=>onNil r (K0G Tryz.prog glX 40 [V.raw (Value.int IntKind.u8 n)] fun v=>onLst v fun s_1 es_1=>R (V.tup [V.agg [V.lst s_1 es_1,iv n_3,V.lst s es],iv (0:Int)])))) (ifB (n_2 != (0:Int)) (ifB (n_2 != (0:Int)) (R (V.tup [V.agg [nilS,iv (0:Int),nilS],iv n_2])) (K0G Tryz.prog glX 32 [V.lst 3 (itl bx),V.lst 1 (pll p),V.lst 1 (nl v)] fun v=>onLst v fun s es=>K0G Tryz.prog glX 38 [V.lst s es,V.fn (Fn.func 39) [] []] fun v=>onAgg v fun cs=>onCons cs fun u r=>onIntK IntKind.u8 u fun n=>onCons r fun u r=>onIntK IntKind.i64 u fun n_3=>onCons r fun u r=>onLst u fun s es=>onNil r (K0G Tryz.prog glX 40 [V.raw (Value.int IntKind.u8 n)] fun v=>onLst v fun s_1 es_1=>R (V.tup [V.agg [V.lst s_1 es_1,iv n_3,V.lst s es],iv (0:Int)])))) (K0G Tryz.prog glX 32 [V.lst 3 (itl bx),V.lst 1 (pll p),V.lst 1 (nl v)] fun v=>onLst v fun s es=>K0G Tryz.prog glX 38 [V.lst s es,V.fn (Fn.func 39) [] []] fun v=>onAgg v fun cs=>onCons cs fun u r=>onIntK IntKind.u8 u fun n=>onCons r fun u r=>onIntK IntKind.i64 u fun n_3=>onCons r fun u r=>onLst u fun s es=>onNil r (K0G Tryz.prog glX 40 [V.raw (Value.int IntKind.u8 n)] fun v=>onLst v fun s_1 es_1=>R (V.tup [V.agg [V.lst s_1 es_1,iv n_3,V.lst s es],iv (0:Int)])))))) (by kernel_rfl) ?_)
 refine check37ok k1 (onIntK_iv (checkAllok (by omega) k2 (onIntK_iv (checkPlansok k3 k4 k5 (onIntK_iv (ifB_f rfl (ifB_f rfl (ifB_f rfl ?_))))))))
 have h256:2 ^ p.length≤256:=Nat.pow_le_pow_right (n:=2) (by omega) k3
 refine choices51 k1.nok (by have:=k1.1; omega) (fun l hl=>(k2 l hl).nok) (fun x hx=>⟨(k5 x hx).1,by have:=(k5 x hx).2; omega⟩) k4 k3 (fun cs hcs hcd hne=>onLst_lst ?_)
 have hlen:cs.length≤1000:=by
  have e:cs.length=(choS bx p v (2 ^ p.length)).length:=by rw [← hcs,List.length_map]
  have:=List.length_filterMap_le (fun s=>(choF p v (bl8 s) 0 bx).map fun q=>(s,q.1,q.2)) (List.range (2 ^ p.length))
  simp only [List.length_range] at this
  rw [e]
  unfold choS
  omega
 have hmem : ∀ c∈cs,c.1<2 ^ p.length∧choF p v (bl8 c.1) 0 bx=some (c.2.1,c.2.2.1):=fun c hc=>(choS_mem (x:=erC c)).1 (by rw [← hcs]; exact List.mem_map_of_mem hc)
 refine min88 hne hlen (fun c hc=>by have:=(hmem c hc).1; omega) (fun c hc hbest=>?_)
 obtain ⟨m1,m2⟩:=hmem c hc
 refine onAgg_agg (onCons_cons (onIntK_u8 (onCons_cons (onIntK_iv (onCons_cons (onLst_lst (onNil_nil ?_)))))))
 obtain ⟨d1,hd1,hN1⟩:=lsN_isL (bl8 c.1)
 refine list90 (by omega) (onLst_isL hN1 ?_)
 refine h c.1 c.2.1 c.2.2.1 c.2.2.2 d1 m1 m2 (fun s' val' l' hs' hc' => ?_)
 have hx:(s', val', l')∈cs.map erC:=by rw [hcs]; exact choS_mem.2 ⟨hs', hc'⟩
 obtain ⟨c', h1,h2⟩:=List.mem_map.1 hx
 have:=hbest c' h1
 simp only [erC,Prod.mk.injEq] at h2
 omega
theorem hasM : ∀ (l:List It) (a b:Int),hasFM l a b=hasF l a b
 | [],_,_=>rfl
 | x::l,a,b=>by simp only [hasFM,hasF,hasM l a b]
def sumN (f:Nat→Int) (q:List Nat):Int:=(q.map f).sum
theorem sum_ite (f:Nat→Int) (c:Nat→Bool) : ∀ q:List Nat,sumN f (q.filter c)=sumN (fun i=>if c i=true then f i else 0) q
 | []=>rfl
 | i::q=>by
  have ih:=sum_ite f c q
  unfold sumN at *
  rw [List.filter_cons]
  split
  ·rename_i h
   rw [List.map_cons,List.map_cons,List.sum_cons,List.sum_cons,ih,if_pos h]
  ·rename_i h
   rw [List.map_cons,List.sum_cons,if_neg h,ih]; omega
theorem sumN_add (f g:Nat→Int) : ∀ q:List Nat,sumN (fun i=>f i+g i) q=sumN f q+sumN g q
 | []=>rfl
 | i::q=>by
  have:=sumN_add f g q
  unfold sumN at *
  simp only [List.map_cons,List.sum_cons]
  omega
theorem sumN_ext {f g:Nat→Int} {q:List Nat} (h : ∀ i∈q,f i=g i):sumN f q=sumN g q:=by
 unfold sumN
 rw [List.map_congr_left h]
theorem bl8_sum (f:Nat→Int) (s:Nat):sumN f (bl8 s)=sumN (fun i=>if s.testBit i=true then f i else 0) (List.range 8):=sum_ite f (fun i=>s.testBit i) _
theorem disj {s t i:Nat} (h:s &&& t=0) (hs:s.testBit i=true) (ht:t.testBit i=true):False:=by
 have:=congrArg (fun z=>z.testBit i) h
 simp [hs,ht] at this
theorem or_sum (f:Nat→Int) {s t:Nat} (h:s &&& t=0):sumN f (bl8 (s ||| t))=sumN f (bl8 s)+sumN f (bl8 t):=by
 rw [bl8_sum,bl8_sum,bl8_sum,← sumN_add]
 refine sumN_ext fun i _=>?_
 rw [Nat.testBit_or]
 cases hs:s.testBit i <;> cases ht:t.testBit i <;> simp
 exact (disj h hs ht).elim
theorem sum_beyond (f:Nat→Int) (n:Nat) (h : ∀ i,n≤i→f i=0) : ∀ d,sumN f (List.range (n+d))=sumN f (List.range n)
 | 0=>rfl
 | d+1=>by
  have ih:=sum_beyond f n h d
  unfold sumN at *
  rw [← Nat.add_assoc,List.range_succ,List.map_append,List.sum_append,ih]
  simp [h (n+d) (by omega)]
def worF (v:List Int) (w:List Nat) (k:Nat):Int:=sumN (fun i=>if 0<w.getD i 0 then v.getD i 0 else 0) (List.range k)
theorem worF_succ (v:List Int) (w:List Nat) (k:Nat):worF v w (k+1)=worF v w k+if 0<w.getD k 0 then v.getD k 0 else 0:=by
 unfold worF sumN
 rw [List.range_succ,List.map_append,List.sum_append]
 simp
theorem bit_lt {s n i:Nat} (hs:s<2 ^ n) (h:s.testBit i=true):i<n:=by
 have:=Nat.ge_two_pow_of_testBit h
 exact (Nat.pow_lt_pow_iff_right (a:=2) (by omega)).1 (by omega)
theorem wor_all {v:List Int} {n s t:Nat} (hn:n≤8) (hs:s<2 ^ n) (ht:t<2 ^ n) (h:s &&& t=0):worF v (wS n (bl8 s) (bl8 t)) n=sumN (fun i=>v.getD i 0) (bl8 s)+sumN (fun i=>v.getD i 0) (bl8 t):=by
 rw [← or_sum _ h,bl8_sum,show 8=n+(8 - n) from by omega,sum_beyond _ n (fun i hi=>by
  have h1 : ¬ (s ||| t).testBit i=true:=fun hb=>by
   rw [Nat.testBit_or,Bool.or_eq_true] at hb
   rcases hb with hb | hb
   ·have:=bit_lt hs hb; omega
   ·have:=bit_lt ht hb; omega
  rw [if_neg h1])]
 unfold worF
 refine sumN_ext fun i hi=>?_
 have hi:=List.mem_range.1 hi
 have e:(wS n (bl8 s) (bl8 t)).getD i 0=if i∈bl8 t then 2 else if i∈bl8 s then 1 else 0:=by rw [List.getD_eq_getElem?_getD,wS_get _ _ hi]; rfl
 have m1:i∈bl8 s↔s.testBit i=true:=by rw [bl8_mem]; exact ⟨fun h=>h.2,fun h=>⟨by omega,h⟩⟩
 have m2:i∈bl8 t↔t.testBit i=true:=by rw [bl8_mem]; exact ⟨fun h=>h.2,fun h=>⟨by omega,h⟩⟩
 rw [e,Nat.testBit_or]
 cases e1:s.testBit i <;> cases e2:t.testBit i <;> simp [m1,m2,e1,e2]
theorem worF_bd {v:List Int} (hv : ∀ x∈v,0≤x∧x≤1000) (w:List Nat) : ∀ k,0≤worF v w k∧worF v w k≤(k:Int) * 1000
 | 0=>by simp [worF,sumN]
 | k+1=>by
  have ih:=worF_bd hv w k
  have hg:0≤v.getD k 0∧v.getD k 0≤1000:=by
   rw [List.getD_eq_getElem?_getD]
   cases e:v[k]? with
   | none=>simp
   | some x=>exact hv x (List.mem_of_getElem? e)
  rw [worF_succ]
  split <;> omega
theorem sumF_cong {m m' : Nat} {x:It} : ∀ {p:List (List It)} {w w' : List Nat},w.length=w'.length→(∀ i:Nat,w[i]? = some m↔w'[i]? = some m')→sumF p w m x=sumF p w' m' x
 | [],w,w', _,_=>by cases w <;> cases w' <;> rfl
 | l::p,[],[],_,_=>rfl
 | l::p,a::w,b::w', hl,h=>by
  have h0:=h 0
  simp only [List.getElem?_cons_zero,Option.some.injEq] at h0
  have ih:=sumF_cong (m:=m) (m' := m') (x:=x) (p:=p) (w:=w) (w' := w') (by simpa using hl) (fun i=>by have:=h (i+1); simpa using this)
  simp only [sumF]
  rw [ih]
  by_cases e:a=m
  ·rw [if_pos e,if_pos (h0.1 e)]
  ·rw [if_neg e,if_neg (fun q=>e (h0.2 q))]
theorem built_cong {bx:List It} {p:List (List It)} {w w' : List Nat} {m m' : Nat} (hl:w.length=w'.length) (h : ∀ i:Nat,w[i]? = some m↔w'[i]? = some m') (hb:Built bx p w' m'):Built bx p w m:=fun i l h1 h2 x hx=>by
 rw [sumF_cong hl h]
 exact hb i l h1 ((h i).1 h2) x hx
theorem wS_one {n s t:Nat} (h:s &&& t=0) (i:Nat):(wS n (bl8 s) (bl8 t))[i]? = some 1↔(whoF n (bl8 s))[i]? = some 1:=by
 by_cases hi:i<n
 ·rw [wS_get _ _ hi,whoF_get _ hi]
  by_cases h2:i∈bl8 t
  ·have h1 : ¬ i∈bl8 s:=fun h1=>disj h (bl8_mem.1 h1).2 (bl8_mem.1 h2).2
   simp [h1,h2]
  ·simp [h2]
 ·rw [List.getElem?_eq_none_iff.2 (by rw [wS_len]; omega),List.getElem?_eq_none_iff.2 (by rw [whoF_len]; omega)]
theorem wS_two {n:Nat} {S T:List Nat} (i:Nat):(wS n S T)[i]? = some 2↔(whoF n T)[i]? = some 1:=by
 by_cases hi:i<n
 ·rw [wS_get _ _ hi,whoF_get _ hi]
  by_cases h2:i∈T
  ·simp [h2]
  ·simp only [h2,if_false]; split <;> simp
 ·rw [List.getElem?_eq_none_iff.2 (by rw [wS_len]; omega),List.getElem?_eq_none_iff.2 (by rw [whoF_len]; omega)]; simp
theorem built_of {bx l:List It} {p:List (List It)} {v:List Int} {s:Nat} {x:Int} (hb:Stk bx) (hp : ∀ l∈p,Stk l) (hs:s<2 ^ p.length) (h:choF p v (bl8 s) 0 bx=some (x,l)):Built bx p (whoF p.length (bl8 s)) 1:=by
 have gp : ∀ l∈p,G l:=fun l hl=>(hp l hl).g
 obtain ⟨_,c2,_,c4⟩:=cho_some gp hb.g h
 refine (built_need hb.g gp (fun i hi=>bl8_lt hs hi) (bl8_sorted s)).2 (fun a b=>?_)
 have:=c4 a b
 have:=c2.pos a b
 omega
theorem needF_or {p:List (List It)} {s t:Nat} (h:s &&& t=0) (a b:Int):needF p (bl8 (s ||| t)) a b=needF p (bl8 s) a b+needF p (bl8 t) a b:=or_sum (fun i=>hasF (p.getD i []) a b) h
theorem or_lt {s t n:Nat} (hs:s<2 ^ n) (ht:t<2 ^ n):s ||| t<2 ^ n:=Nat.or_lt_two_pow hs ht
theorem zero_and (s:Nat):s &&& 0=0∧0 &&& s=0:=by simp
set_option maxHeartbeats 2000000 in
theorem law3 {a b:List It} {p:List (List It)} {v:List Int} {R:V→Prop} (h:R (bv true)):K0G Tryz.prog glX 3 [.lst 3 (itl a),.lst 3 (itl b),.lst 1 (pll p),.lst 1 (nl v)] R:=by
 refine K0_of_WY0 hmX hcLw 3000 Tryz.func3 (see (p:=K0G Tryz.prog glX 6 [] fun v_1=>onBool v_1 fun b_1=>K0G Tryz.prog glX 7 [V.lst 1 [[V.lst 3 (itl a)],[V.lst 3 (itl b)]]] fun v_2=>onBool v_2 fun b_2=>ifB b_2 (R (bv b_1)) (K0G Tryz.prog glX 8 [V.lst 1 (pll p),V.lst 1 (nl v)] fun v_3=>onBool v_3 fun b_3=>ifB (!b_3) (R (bv b_1)) (ifB (!b_1) (R (bv b_1)) (K0G Tryz.prog glX 9 [V.lst 3 (itl a),V.lst 3 (itl b),V.lst 1 (pll p),V.lst 1 (nl v)] fun v_4=>onTup v_4 fun vs=>onCons vs fun u r=>onLst u fun s es=>onCons r fun u r=>onIntK IntKind.i64 u fun n=>onCons r fun u r=>onIntK IntKind.i64 u fun n_1=>onNil r (ifB (n_1 != (0:Int)) (ifB b_1 (ifB ((↑es.length:Int)==(0:Int)) (R (bv (n==(0:Int)))) (R (bv false))) (R (bv false))) (ifB ((↑es.length:Int) != (↑(pll p).length:Int)) (R (bv false)) (ifB ((↑(nl v).length:Int) != (↑(pll p).length:Int)) (R (bv false)) (K0G Tryz.prog glX 10 [V.lst 3 (itl a),V.lst 1 (pll p),V.lst s es,V.raw (Value.int IntKind.u8 (1:Int))] fun v_5=>onBool v_5 fun b_4=>ifB (!b_4) (R (bv false)) (K0G Tryz.prog glX 10 [V.lst 3 (itl b),V.lst 1 (pll p),V.lst s es,V.raw (Value.int IntKind.u8 (2:Int))] fun v_6=>onBool v_6 fun b_5=>ifB (!b_5) (R (bv false)) (La 0 [(0:Tmp),(1:Tmp),(2:Tmp),(3:Tmp),(9:Tmp),(11:Tmp),(13:Tmp),(87:Tmp),(88:Tmp),(89:Tmp)] (WY Tryz.prog cfL 2989 (Env.mk (Bs.mk 0 []) 0 none 169 3 0) (cdAt [1,1,1,1,1,1,1,0,1,0,0] (bodyOf Tryz.f3))) (Qblk 0 (Qthen (WY Tryz.prog cfL 2992 (Env.mk (Bs.mk 0 []) 0 none 169 3 0) (cdAt [1,1,1,1,1,1,1,1] (bodyOf Tryz.f3)) (QendX Tryz.prog Tryz.f3 fun v h=>R (frzW h v))) (QendX Tryz.prog Tryz.f3 fun v h=>R (frzW h v)))) (St.mk (mkT [(0,V.lst 3 (itl a)),(1,V.lst 3 (itl b)),(2,V.lst 1 (pll p)),(3,V.lst 1 (nl v)),(9,bv b_1),(11,iv n),(13,iv (0:Int)),(87,V.lst s es),(88,iv (↑es.length:Int)),(89,iv (0:Int))]) (Hp.mk [] 0 [])))))))))))) (by kernel_rfl) ?_)
 refine use t5 (onBool_bv ?_)
 refine lots28 (p:=[a,b]) (by simp) (fun b1=>onBool_bv (ifB_mk (fun _=>h) (fun _=>?_)))
 refine small37 (fun b2 hb2=>onBool_bv (ifB_mk (fun _=>h) (fun h2=>?_)))
 obtain ⟨hp6,hv20⟩:=hb2 (by simpa using h2)
 refine ifB_f rfl ?_
 refine share9 (by omega) (by omega) (fun n hn=>onTup_tup (onCons_cons (onLst_nil (onCons_cons (onIntK_iv (onCons_cons (onIntK_iv (onNil_nil (ifB_t (by simpa using hn) (ifB_t rfl (ifB_t rfl h))))))))))) ?_
 intro ka kb k2 k3 k4 k5 s t x y l m hs ht h0 hx hy hbest
 refine onTup_tup (onCons_cons (onLst_lst (onCons_cons (onIntK_iv (onCons_cons (onIntK_iv (onNil_nil (ifB_f rfl ?_))))))))
 have nll:(nl v).length=v.length:=by simp [nl]
 have hpl:=pll_length p
 have gp : ∀ l∈p,G l:=fun l hl=>(k2 l hl).g
 have hwl:(wS p.length (bl8 s) (bl8 t)).length=p.length:=wS_len _ _ _
 obtain ⟨x1,x2,x3,x4⟩:=cho_some gp ka.g hx
 obtain ⟨y1,y2,y3,y4⟩:=cho_some gp kb.g hy
 have hwor:=wor_all (v:=v) k3 hs ht h0
 refine ifB_f (by rw [ul_length,hwl,hpl]; simp) (ifB_f (by rw [nll,hpl,k4]; simp) ?_)
 refine built39 (m:=1) ka.1 k3 hwl k2 (fun c hc=>onBool_bv ?_)
 have c1:c=true:=hc.2 (built_cong (by rw [wS_len,whoF_len]) (wS_one h0) (built_of ka k2 hs hx))
 refine ifB_f (by rw [c1]; rfl) ?_
 refine built39 (m:=2) kb.1 k3 hwl k2 (fun c hc=>onBool_bv ?_)
 have c2:c=true:=hc.2 (built_cong (by rw [wS_len,whoF_len]) (fun i=>wS_two i) (built_of kb k2 ht hy))
 refine ifB_f (by rw [c2]; rfl) ?_
 obtain ⟨w,hw⟩ : ∃ w,w=wS p.length (bl8 s) (bl8 t):=⟨_,rfl⟩
 have hw2 : ∀ (i z:Nat),w[i]? = some z→z≤2:=by
  intro i z hz
  rw [hw] at hz
  have hi:i<p.length:=by have:=(List.getElem?_eq_some_iff.1 hz).1; rw [wS_len] at this; exact this
  rw [wS_get _ _ hi,Option.some.injEq] at hz
  rw [← hz]
  split
  ·omega
  ·split <;> omega
 rw [← hw] at hwl hwor ⊢
 obtain ⟨n,hn⟩ : ∃ n,n=x+y:=⟨_,rfl⟩
 rw [← hn] at hbest ⊢
 refine La.of (σ:=Nat) (fun k=>sh3 a b p v n w (worF v w k) k) (fun k=>k≤w.length) (fun k=>w.length - k) 0 (by kernel_rfl) (by omega) ?_
 rintro k g1 J hJ
 obtain ⟨z,hz⟩ : ∃ z,z=worF v w k:=⟨_,rfl⟩
 have hzb:=worF_bd k5 w k
 rw [← hz] at hzb ⊢
 refine see (p:=ifB (decide ((↑k:Int)<(↑(ul w).length:Int))) (onSome (ul w)[k]? fun row=>onSome row[0]? fun v_1=>onIntK IntKind.u8 v_1 fun n_1=>ifB (decide (n_1 > (2:Int))) (R (bv false)) (ifB (decide (n_1 > (0:Int))) (onSome (nl v)[k]? fun row=>onSome row[0]? fun v_2=>onIntK IntKind.i64 v_2 fun n_2=>J (St.mk (mkT [(0,V.lst 3 (itl a)),(1,V.lst 3 (itl b)),(2,V.lst 1 (pll p)),(3,V.lst 1 (nl v)),(9,bv true),(11,iv n),(13,iv (IntKind.i64.wrap (z+n_2))),(87,V.lst 1 (ul w)),(88,iv (↑(ul w).length:Int)),(89,iv (IntKind.i64.wrap ((↑k:Int)+(1:Int))))]) (Hp.mk [] 0 []))) (J (St.mk (mkT [(0,V.lst 3 (itl a)),(1,V.lst 3 (itl b)),(2,V.lst 1 (pll p)),(3,V.lst 1 (nl v)),(9,bv true),(11,iv n),(13,iv z),(87,V.lst 1 (ul w)),(88,iv (↑(ul w).length:Int)),(89,iv (IntKind.i64.wrap ((↑k:Int)+(1:Int))))]) (Hp.mk [] 0 []))))) (K0G Tryz.prog glX 11 [V.lst 3 (itl a),V.lst 1 (pll p),V.lst 1 (nl v)] fun v_1=>onTup v_1 fun vs=>onCons vs fun u r=>onAgg u fun cs=>onCons cs fun u r_1=>onLst u fun s es=>onCons r_1 fun u r_2=>onIntK IntKind.i64 u fun n_1=>onCons r_2 fun u r_3=>onLst u fun s es=>onNil r_3 (onCons r fun u r=>onIntK IntKind.i64 u fun n_2=>onNil r (K0G Tryz.prog glX 11 [V.lst 3 (itl b),V.lst 1 (pll p),V.lst 1 (nl v)] fun v_2=>onTup v_2 fun vs=>onCons vs fun u r=>onAgg u fun cs=>onCons cs fun u r_4=>onLst u fun s es=>onCons r_4 fun u r_5=>onIntK IntKind.i64 u fun n_3=>onCons r_5 fun u r_6=>onLst u fun s es=>onNil r_6 (onCons r fun u r=>onIntK IntKind.i64 u fun n_4=>onNil r (KB Tryz.prog glX 12 [V.lst 3 (itl a),V.lst 3 (itl b)] (Hp.mk [] 0 []) fun v_3=>onTup v_3 fun vs=>onCons vs fun u r=>onLst u fun s es=>guardB (s.beq 3 || s.beq 0) (onCons r fun u r=>onIntK IntKind.i64 u fun n_5=>onNil r (ifB (n_2 != (0:Int)) (R (bv false)) (ifB (n_4 != (0:Int)) (R (bv false)) (ifB (z != n) (R (bv false)) (ifB (decide (n<n_1)) (R (bv false)) (ifB (decide (n<n_3)) (R (bv false)) (ifB (n_5 != (0:Int)) (R (bv true)) (K0G Tryz.prog glX 11 [V.lst 3 (sub es 0 es.length),V.lst 1 (pll p),V.lst 1 (nl v)] fun v=>onTup v fun vs=>onCons vs fun u r=>onAgg u fun cs=>onCons cs fun u r_7=>onLst u fun s es=>onCons r_7 fun u r_8=>onIntK IntKind.i64 u fun n_6=>onCons r_8 fun u r_9=>onLst u fun s es=>onNil r_9 (onCons r fun u r=>onIntK IntKind.i64 u fun n_7=>onNil r (ifB (n_7==(0:Int)) (R (bv (decide (n_6 ≥ n)))) (R (bv false)))))))))))))))))) (by kernel_rfl) ?_
 refine ifB_mk (fun d=>?_) (fun d=>?_) <;> rw [ul_length] at d
 ·have hk:k<w.length:=by have:=of_decide_eq_true d; omega
  obtain ⟨u,hu⟩ : ∃ u,w[k]? = some u:=⟨w[k],by simp [hk]⟩
  have hu2:=hw2 k u hu
  have hgd:w.getD k 0=u:=by rw [List.getD_eq_getElem?_getD,hu]; rfl
  have hvk:=k5 _ (List.mem_of_getElem? (getVa (l:=v) (i:=k) (by omega)))
  have st:=hJ (k+1) hk (by omega)
  rw [worF_succ,← hz,hgd] at st
  refine ulel hu (ifB_f (decide_eq_false (by omega)) ?_)
  rw [wr1i hk (by omega)]
  refine ifB_mk (fun e=>?_) (fun e=>?_)
  ·have e:=of_decide_eq_true e
   rw [if_pos (by omega)] at st
   refine iel (getVa (by omega)) ?_
   rw [wr (by omega) (by omega)]
   exact st
  ·have e:=of_decide_eq_false e
   rw [if_neg (by omega),Int.add_zero] at st
   exact st
 ·have hk:k=p.length:=by have:=of_decide_eq_false d; omega
  have hzn:z=n:=by
   rw [hz,hk,hwor,hn,x1,y1]
   simp [sumN]
  rw [hzn]
  refine choose11ok ka k2 k3 k4 k5 (fun s1 v1 l1 d1 e1 q1 q2 q3=>onTup_tup (onCons_cons (onAgg_agg (onCons_cons (onLst_lst (onCons_cons (onIntK_iv (onCons_cons (onLst_lst (onNil_nil (onCons_cons (onIntK_iv (onNil_nil ?_)))))))))))))
  refine choose11ok kb k2 k3 k4 k5 (fun s2 v2 l2 d2 e2 r1 r2 r3=>onTup_tup (onCons_cons (onAgg_agg (onCons_cons (onLst_lst (onCons_cons (onIntK_iv (onCons_cons (onLst_lst (onNil_nil (onCons_cons (onIntK_iv (onNil_nil ?_)))))))))))))
  have p0:0<2 ^ p.length:=Nat.two_pow_pos _
  have b1:=hbest s1 0 v1 0 l1 b q1 p0 (zero_and s1).1 q2 (cho_empty b p v)
  have b2:=hbest 0 s2 0 v2 a l2 p0 r1 (zero_and s2).2 (cho_empty a p v) r2
  refine add9M (by have:=ka.1; omega) (by have:=kb.1; omega) (fun q=>(q ⟨ka,kb⟩).elim) (fun _ _ u hG _ hhas=>?_)
  have last:Stk u→K0G Tryz.prog glX 11 [.lst 3 (itl u),.lst 1 (pll p),.lst 1 (nl v)] fun v=>onTup v fun vs=>onCons vs fun u r=>onAgg u fun cs=>onCons cs fun u r_7=>onLst u fun s es=>onCons r_7 fun u r_8=>onIntK IntKind.i64 u fun n_6=>onCons r_8 fun u r_9=>onLst u fun s es=>onNil r_9 (onCons r fun u r=>onIntK IntKind.i64 u fun n_7=>onNil r (ifB (n_7==(0:Int)) (R (bv (decide (n_6 ≥ n)))) (R (bv false)))):=by
   intro ku
   refine choose11ok ku k2 k3 k4 k5 (fun s3 v3 l3 d3 e3 t1 t2 t3=>onTup_tup (onCons_cons (onAgg_agg (onCons_cons (onLst_lst (onCons_cons (onIntK_iv (onCons_cons (onLst_lst (onNil_nil (onCons_cons (onIntK_iv (onNil_nil (ifB_t rfl ?_))))))))))))))
   obtain ⟨m', hm'⟩:=cho_all (v:=v) (n:=0) gp ku.g (q:=bl8 (s ||| t)) (fun i j=>by
    have hh:=hhas i j
    rw [hasM,hasM,hasM] at hh
    have e1:=x4 i j
    have e2:=y4 i j
    have e3:=x2.pos i j
    have e4:=y2.pos i j
    rw [needF_or h0,hh]
    omega)
   have e:=(cho_some gp ku.g (show choF p v (bl8 (s ||| t)) 0 u=some (m'.1,m'.2) from hm')).1
   have hle:=t3 (s ||| t) m'.1 m'.2 (or_lt hs ht) hm'
   have ho:=or_sum (fun i=>v.getD i 0) h0
   unfold sumN at ho
   rw [decide_eq_true (by omega)]
   exact h
  unfold addRM
  split
  ·rename_i hd
   have ku:Stk u:=dc_trueM hd
   have lk:=last ku
   rw [← sub_all (itl u)] at lk
   cases u with
   | nil=>exact onTup_tup (onCons_cons (onLst_nil (guardB_mk rfl (onCons_cons (onIntK_iv (onNil_nil (ifB_f rfl (ifB_f rfl (ifB_f (by simp) (ifB_f (decide_eq_false (by omega)) (ifB_f (decide_eq_false (by omega)) (ifB_f rfl lk))))))))))))
   | cons c r=>exact onTup_tup (onCons_cons (onLst_lst (guardB_mk rfl (onCons_cons (onIntK_iv (onNil_nil (ifB_f rfl (ifB_f rfl (ifB_f (by simp) (ifB_f (decide_eq_false (by omega)) (ifB_f (decide_eq_false (by omega)) (ifB_f rfl lk))))))))))))
  ·exact onTup_tup (onCons_cons (onLst_nil (guardB_mk rfl (onCons_cons (onIntK_iv (onNil_nil (ifB_f rfl (ifB_f rfl (ifB_f (by simp) (ifB_f (decide_eq_false (by omega)) (ifB_f (decide_eq_false (by omega)) (ifB_t rfl h))))))))))))
end Go.Proofs.YtmddjopahcbefabGreat
namespace Go.Proofs.YtmddjopahcbefabGreat.Clean
open Go.Deep
set_option linter.unusedSimpArgs false
set_option linter.unusedVariables false
section
variable {H:Type} (enc:TypeId×Value→H) (P:Program) (w:World)
def FW (r:Nat):Prop:=r<w.heap.size
def Opens (t:TypeId) {α:Type} (f:α→List V) (ok:α→Prop):Prop :=
 ∀ fuel cs x,DataW.trod enc P w 0 (fun _=>true) true fuel t cs=some x → ∃ a,riL (FW w) w (f a) cs∧ok a ∧ ∀ u∈cs,u.oneCell' = true
def OpensF (total:Nat) (off:Nat) (fs:List Field) {α:Type} (f:α→List V) (ok:α→Prop):Prop :=
 ∀ n (cs:List Value),cs.length=total→(∀ fd∈fs, ∃ x,DataW.trod enc P w 0 (fun _=>true) true n fd.type ((cs.drop fd.offset).take (P.cellsOf fd.type))=some x) →
  ∃ a,riL (FW w) w (f a) (cs.drop off)∧ok a ∧ ∀ u∈cs.drop off,u.oneCell' = true
end
section
variable {H:Type} {enc:TypeId×Value→H} {P:Program} {w:World}
theorem riL_append : ∀ {vs us:List V} {xs ys:List Value},riL (FW w) w vs xs→riL (FW w) w us ys→riL (FW w) w (vs++us) (xs++ys)
 | [],us,xs,ys,h,k=>by simp only [riL] at h; subst h; simpa using k
 | v::vs,us,xs,ys,h,k=>by
  simp only [riL] at h
  obtain ⟨x,zs,rfl,h2,h3⟩:=h
  simp only [List.cons_append,riL]
  exact ⟨x,zs++ys,rfl,h2,riL_append h3 k⟩
theorem riL_one {v:V} {x:Value} (h:ri (FW w) w v x):riL (FW w) w [v] [x]:=by simp only [riL]; exact ⟨x,[],rfl,h,rfl⟩
theorem riL_get : ∀ {vs:List V} {xs:List Value},riL (FW w) w vs xs → ∀ (i:Nat) v,vs[i]? = some v → ∃ x,xs[i]? = some x∧ri (FW w) w v x
 | [],xs,h,i,v,hi=>by simp at hi
 | u::vs,xs,h,i,v,hi=>by
  simp only [riL] at h
  obtain ⟨x,ys,rfl,h2,h3⟩:=h
  cases i with
  | zero=>simp at hi; subst hi; exact ⟨x,rfl,h2⟩
  | succ i=>simp at hi; simpa using riL_get h3 i v hi
theorem riL_length : ∀ {vs:List V} {xs:List Value},riL (FW w) w vs xs→xs.length=vs.length
 | [],xs,h=>by simp only [riL] at h; simp [h]
 | v::vs,xs,h=>by simp only [riL] at h; obtain ⟨x,ys,rfl,_,h3⟩:=h; simp [riL_length h3]
theorem opens_int {t:TypeId} {k:IntKind} (ht:P.underlying t=some (.int k)):Opens enc P w t (fun n:Int=>[.raw (.int k n)]) (fun n=>(Lit.int k n).wf=true):=by
 intro fuel cs x h
 obtain ⟨n,rfl,_,hw⟩:=DataW.trod_int ht h
 exact ⟨n,riL_one (by simp [ri]),hw,by simp [Value.oneCell']⟩
theorem opens_slice {t e:TypeId} {s:Nat} {α:Type} {f:α→List V} {ok:α→Prop} (ht:P.underlying t=some (.slice e)) (hs:P.cellsOf e=s) (hpos:s≠0) (ho:Opens enc P w e f ok) :
  Opens enc P w t (fun l:List α=>[.lst s (l.map f)]) (fun l=>l.length≤maxLen ∧ ∀ a∈l,ok a):=by
 intro fuel cs x h
 rcases open_slice ht h with ⟨rfl,_⟩ | ⟨a,len,cap,m,n,D,Pl,rfl,_,hl,hm,hmm,_,hx⟩
 ·exact ⟨[],riL_one (by simp [ri]),by simp,by simp [Value.oneCell']⟩
 ·simp only [if_true] at hmm
  subst hmm
  rw [hs] at hx
  have each : ∀ i,i<len → ∃ q:α,(∃ cs', w.cells? 0 (a.add (i * s)) s=some cs' ∧ riL (FW w) w (f q) cs' ∧ ∀ u∈cs', u.oneCell' = true)∧ok q:=by
   intro i hi
   obtain ⟨cs', h1,h2⟩:=hx i (by omega)
   obtain ⟨q,h3,h4,h5⟩:=ho _ _ _ h2
   exact ⟨q,⟨cs', h1,h3,h5⟩,h4⟩
  obtain ⟨q,hq⟩ : ∃ q:Nat→Option α, ∀ i,i<len → ∃ y,q i=some y∧(∃ cs', w.cells? 0 (a.add (i * s)) s=some cs' ∧ riL (FW w) w (f y) cs' ∧ ∀ u∈cs', u.oneCell' = true)∧ok y:=by
   refine Classical.axiomOfChoice (r:=fun i (o:Option α)=>i<len → ∃ y,o=some y∧(∃ cs', w.cells? 0 (a.add (i * s)) s=some cs' ∧ riL (FW w) w (f y) cs' ∧ ∀ u∈cs', u.oneCell' = true)∧ok y) ?_
   intro i
   by_cases hi:i<len
   ·obtain ⟨y,hy⟩:=each i hi
    exact ⟨some y,fun _=>⟨y,rfl,hy⟩⟩
   ·exact ⟨none,fun h=>(hi h).elim⟩
  let l:List α:=(List.range len).filterMap q
  have hl' : l.length=len ∧ ∀ i,i<len→l[i]? = q i:=by
   have key : ∀ k,k≤len→((List.range k).filterMap q).length=k ∧ ∀ i,i<k→((List.range k).filterMap q)[i]? = q i:=by
    intro k
    induction k with
    | zero=>intro _; simp
    | succ k ih =>
     intro hk
     obtain ⟨h1,h2⟩:=ih (by omega)
     obtain ⟨y,hy,_⟩:=hq k (by omega)
     have:(List.range (k+1)).filterMap q=(List.range k).filterMap q++[y]:=by rw [List.range_succ,List.filterMap_append]; simp [hy]
     rw [this]
     refine ⟨by simp [h1],fun i hi=>?_⟩
     by_cases hik:i<k
     ·rw [List.getElem?_append_left (by omega)]; exact h2 i hik
     ·have:i=k:=by omega
      subst this
      rw [List.getElem?_append_right (by omega),h1,hy]; simp
   exact key len (Nat.le_refl _)
  refine ⟨l,riL_one ?_,⟨by omega,fun b hb=>?_⟩,by simp [Value.oneCell']⟩
  ·simp only [ri]
   refine .inr ⟨a,m,by simp [hl'.1]; exact hl,by simp [hl'.1],?_⟩
   by_cases h0:len=0
   ·left
    have:l=[]:=List.eq_nil_of_length_eq_zero (by omega)
    simp [this]
   ·right
    have cell : ∀ (i:Nat) (cs' : List Value),i<len→w.cells? 0 (a.add (i * s)) s=some cs' → ∀ j,j<s→w.cell? (a.add (i * s+j))=cs'[j]? ∧ cs'.length=s:=by
     intro i cs' hi hc j hj
     obtain ⟨_,hlen,hcc⟩:=World.cells?_some hc
     have:=hcc j hj
     rw [add_add] at this
     exact ⟨this,hlen⟩
    obtain ⟨y0,hy0,⟨cs0,c1,_,_⟩,_⟩:=hq 0 (by omega)
    have hc0:=(cell 0 cs0 (by omega) c1 0 (by omega))
    have hsome : ∃ u,w.cell? a=some u:=by
     have h1:=hc0.1
     rw [Nat.zero_mul,Nat.zero_add] at h1
     have:a.add 0=a:=by simp [Addr.add]
     rw [this] at h1
     rw [h1]
     exact ⟨cs0[0]'(by omega),List.getElem?_eq_getElem (by omega)⟩
    obtain ⟨u0,hu0⟩:=hsome
    have hspot:a.spot=none:=by
     unfold World.cell? at hu0
     split at hu0
     ·split at hu0
      ·cases hu0
      ·rename_i h; simpa using h
     ·cases hu0
    obtain ⟨ab,ao,asp⟩:=a
    simp only at hspot
    subst hspot
    refine ⟨rfl,World.block_lt_of_cell? w _ hu0,?_⟩
    rw [riRows_iff]
    intro i row hrow
    rw [List.getElem?_map,Option.map_eq_some_iff] at hrow
    obtain ⟨b,hb,rfl⟩:=hrow
    have hi:i<len:=by have:=(List.getElem?_eq_some_iff.1 hb).1; omega
    obtain ⟨y,hy,⟨cs', g1,g2,g3⟩,_⟩:=hq i hi
    rw [hl'.2 i hi,hy] at hb
    simp at hb
    subst hb
    have hlen' := riL_length g2
    obtain ⟨_,hclen,_⟩:=World.cells?_some g1
    refine ⟨by omega,fun j v hj=>?_⟩
    obtain ⟨z,z1,z2⟩:=riL_get g2 j v hj
    have hjs:j<s:=by have:=(List.getElem?_eq_some_iff.1 z1).1; omega
    refine ⟨z,?_,g3 z (List.mem_of_getElem? z1),z2⟩
    have:=(cell i cs' hi g1 j hjs).1
    rw [add_lit,← Nat.add_assoc] at this
    rw [this]; exact z1
  ·obtain ⟨i,hi⟩:=List.mem_iff_getElem?.1 hb
   have hil:i<len:=by have:=(List.getElem?_eq_some_iff.1 hi).1; omega
   obtain ⟨y,hy,_,hok⟩:=hq i hil
   rw [hl'.2 i hil,hy] at hi
   simp at hi
   exact hi ▸ hok
theorem opensF_nil {total:Nat}:OpensF enc P w total total [] (fun _:Unit=>[]) (fun _=>True):=by
 intro n cs hl _
 rw [List.drop_of_length_le (by omega)]
 exact ⟨(),by simp [riL],trivial,by simp⟩
theorem opensF_cons {total off k:Nat} {fd:Field} {fs:List Field} {α β:Type} {f:α→List V} {g:β→List V} {ok:α→Prop} {ok' : β→Prop} (ho:fd.offset=off) (hk:P.cellsOf fd.type=k)
  (h1:Opens enc P w fd.type f ok) (h2:OpensF enc P w total (off+k) fs g ok'):OpensF enc P w total off (fd::fs) (fun x:α×β=>f x.1++g x.2) (fun x=>ok x.1∧ok' x.2):=by
 intro n cs hl hf
 obtain ⟨x,hx⟩:=hf fd (by simp)
 rw [ho,hk] at hx
 obtain ⟨a,a1,a2,a3⟩:=h1 _ _ _ hx
 obtain ⟨b,b1,b2,b3⟩:=h2 n cs hl (fun fd' h' => hf fd' (by simp [h']))
 have hsplit:cs.drop off=(cs.drop off).take k++cs.drop (off+k):=by rw [← List.drop_drop,List.take_append_drop]
 refine ⟨(a,b),?_,⟨a2,b2⟩,?_⟩
 ·rw [hsplit]; exact riL_append a1 b1
 ·rw [hsplit]
  intro u hu
  rcases List.mem_append.1 hu with hu | hu
  ·exact a3 u hu
  ·exact b3 u hu
theorem opens_struct {t:TypeId} {fs:Array Field} {total:Nat} {α:Type} {f:α→List V} {ok:α→Prop} (ht:P.underlying t=some (.struct fs)) (hc:P.cellsOf t=total) (h:OpensF enc P w total 0 fs.toList f ok):Opens enc P w t f ok:=by
 intro fuel cs x hx
 obtain ⟨xs,n,_,_,hl,hxl,hf⟩:=DataW.trod_struct ht hx
 have:=h n cs (by omega) (fun fd hfd=>by
  obtain ⟨i,hi⟩:=List.mem_iff_getElem?.1 hfd
  have hi' : fs[i]? = some fd:=by simpa using hi
  have:=hf i fd hi'
  have hil:i<xs.length:=by rw [hxl]; exact lt_of_some hi'
  rw [List.getElem?_eq_getElem hil] at this
  exact ⟨_,this⟩)
 simpa using this
theorem arg_slice {t e:TypeId} {v:Value} {d:DataW H} {p:List MemPlace} {r:Reach} {b0:Nat} {α:Type} {f:α→V} {ok:α→Prop} (ht:P.underlying t=some (.slice e)) (hval:Value.okWide P w r b0 t v) (h:DataW.Trod enc P w 0 (fun _=>true) true t v d p)
  (ho:Opens enc P w t (fun a=>[f a]) ok) : ∃ a,ri (FW w) w (f a) v∧ok a:=by
 obtain ⟨a,len,cap,rfl⟩:=WideShapes.okWide_slice ht hval
 obtain ⟨fuel,hf⟩:=h
 obtain ⟨y,h1,h2,_⟩:=ho _ _ _ hf
 simp only [Value.cells,riL] at h1
 obtain ⟨x,xs,hx,h3,_⟩:=h1
 simp at hx
 exact ⟨y,by rw [hx.1]; exact h3,h2⟩
end
end Go.Proofs.YtmddjopahcbefabGreat.Clean
