/- A part of the proof. -/
import Derived.Test.YtmddjopahcbefaaProg
import Derived.Test.YtmddjopahcbefaaXW6G9
import Derived.Test.YtmddjopahcbefaaXW6G10
import Derived.Test.YtmddjopahcbefaaXW6G11
namespace Go.Proofs.Ytmddjopahcbefaa
open Go Go.Proofs.Ytmddjopahcbefaa.Clean
set_option linter.unusedVariables false
set_option linter.unusedSimpArgs false
set_option maxRecDepth 10000
theorem hcRf:cfR.ok Try.prog:=by
 have h:(cfgM Try.prog glX moR tyC (inN [91,108]) kpR).ok Try.prog:=cfgM_ok
 exact ⟨h.1,h.2⟩
theorem hasM : ∀ (l:List It) (a b:Int),hasFM l a b=hasF l a b
 | [],_,_=>rfl
 | x::l,a,b=>by simp only [hasFM,hasF,hasM l a b]
def sumN (f:Nat→Int) (q:List Nat):Int:=(q.map f).sum
theorem sum_ite (f:Nat→Int) (c:Nat→Bool) : ∀ q:List Nat,sumN f (q.filter c)=sumN (fun i=>if c i=true then f i else 0) q
 | []=>rfl
 | i::q=>by
  have ih:=sum_ite f c q
  unfold sumN at *
  rw [List.filter_cons]
  split
  ·rename_i h
   rw [List.map_cons,List.map_cons,List.sum_cons,List.sum_cons,ih,if_pos h]
  ·rename_i h
   rw [List.map_cons,List.sum_cons,if_neg h,ih]; omega
theorem sumN_add (f g:Nat→Int) : ∀ q:List Nat,sumN (fun i=>f i+g i) q=sumN f q+sumN g q
 | []=>rfl
 | i::q=>by
  have:=sumN_add f g q
  unfold sumN at *
  simp only [List.map_cons,List.sum_cons]
  omega
theorem sumN_ext {f g:Nat→Int} {q:List Nat} (h : ∀ i∈q,f i=g i):sumN f q=sumN g q:=by
 unfold sumN
 rw [List.map_congr_left h]
theorem bl8_sum (f:Nat→Int) (s:Nat):sumN f (bl8 s)=sumN (fun i=>if s.testBit i=true then f i else 0) (List.range 8):=sum_ite f (fun i=>s.testBit i) _
theorem disj {s t i:Nat} (h:s &&& t=0) (hs:s.testBit i=true) (ht:t.testBit i=true):False:=by
 have:=congrArg (fun z=>z.testBit i) h
 simp [hs,ht] at this
theorem or_sum (f:Nat→Int) {s t:Nat} (h:s &&& t=0):sumN f (bl8 (s ||| t))=sumN f (bl8 s)+sumN f (bl8 t):=by
 rw [bl8_sum,bl8_sum,bl8_sum,← sumN_add]
 refine sumN_ext fun i _=>?_
 rw [Nat.testBit_or]
 cases hs:s.testBit i <;> cases ht:t.testBit i <;> simp
 exact (disj h hs ht).elim
theorem sum_beyond (f:Nat→Int) (n:Nat) (h : ∀ i,n≤i→f i=0) : ∀ d,sumN f (List.range (n+d))=sumN f (List.range n)
 | 0=>rfl
 | d+1=>by
  have ih:=sum_beyond f n h d
  unfold sumN at *
  rw [← Nat.add_assoc,List.range_succ,List.map_append,List.sum_append,ih]
  simp [h (n+d) (by omega)]
def worF (v:List Int) (w:List Nat) (k:Nat):Int:=sumN (fun i=>if 0<w.getD i 0 then v.getD i 0 else 0) (List.range k)
theorem bit_lt {s n i:Nat} (hs:s<2 ^ n) (h:s.testBit i=true):i<n:=by
 have:=Nat.ge_two_pow_of_testBit h
 exact (Nat.pow_lt_pow_iff_right (a:=2) (by omega)).1 (by omega)
theorem wor_all {v:List Int} {n s t:Nat} (hn:n≤8) (hs:s<2 ^ n) (ht:t<2 ^ n) (h:s &&& t=0):worF v (wS n (bl8 s) (bl8 t)) n=sumN (fun i=>v.getD i 0) (bl8 s)+sumN (fun i=>v.getD i 0) (bl8 t):=by
 rw [← or_sum _ h,bl8_sum,show 8=n+(8 - n) from by omega,sum_beyond _ n (fun i hi=>by
  have h1 : ¬ (s ||| t).testBit i=true:=fun hb=>by
   rw [Nat.testBit_or,Bool.or_eq_true] at hb
   rcases hb with hb | hb
   ·have:=bit_lt hs hb; omega
   ·have:=bit_lt ht hb; omega
  rw [if_neg h1])]
 unfold worF
 refine sumN_ext fun i hi=>?_
 have hi:=List.mem_range.1 hi
 have e:(wS n (bl8 s) (bl8 t)).getD i 0=if i∈bl8 t then 2 else if i∈bl8 s then 1 else 0:=by rw [List.getD_eq_getElem?_getD,wS_get _ _ hi]; rfl
 have m1:i∈bl8 s↔s.testBit i=true:=by rw [bl8_mem]; exact ⟨fun h=>h.2,fun h=>⟨by omega,h⟩⟩
 have m2:i∈bl8 t↔t.testBit i=true:=by rw [bl8_mem]; exact ⟨fun h=>h.2,fun h=>⟨by omega,h⟩⟩
 rw [e,Nat.testBit_or]
 cases e1:s.testBit i <;> cases e2:t.testBit i <;> simp [m1,m2,e1,e2]
theorem sumF_cong {m m' : Nat} {x:It} : ∀ {p:List (List It)} {w w' : List Nat},w.length=w'.length→(∀ i:Nat,w[i]? = some m↔w'[i]? = some m')→sumF p w m x=sumF p w' m' x
 | [],w,w', _,_=>by cases w <;> cases w' <;> rfl
 | l::p,[],[],_,_=>rfl
 | l::p,a::w,b::w', hl,h=>by
  have h0:=h 0
  simp only [List.getElem?_cons_zero,Option.some.injEq] at h0
  have ih:=sumF_cong (m:=m) (m' := m') (x:=x) (p:=p) (w:=w) (w' := w') (by simpa using hl) (fun i=>by have:=h (i+1); simpa using this)
  simp only [sumF]
  rw [ih]
  by_cases e:a=m
  ·rw [if_pos e,if_pos (h0.1 e)]
  ·rw [if_neg e,if_neg (fun q=>e (h0.2 q))]
theorem built_cong {bx:List It} {p:List (List It)} {w w' : List Nat} {m m' : Nat} (hl:w.length=w'.length) (h : ∀ i:Nat,w[i]? = some m↔w'[i]? = some m') (hb:Built bx p w' m'):Built bx p w m:=fun i l h1 h2 x hx=>by
 rw [sumF_cong hl h]
 exact hb i l h1 ((h i).1 h2) x hx
theorem wS_one {n s t:Nat} (h:s &&& t=0) (i:Nat):(wS n (bl8 s) (bl8 t))[i]? = some 1↔(whoF n (bl8 s))[i]? = some 1:=by
 by_cases hi:i<n
 ·rw [wS_get _ _ hi,whoF_get _ hi]
  by_cases h2:i∈bl8 t
  ·have h1 : ¬ i∈bl8 s:=fun h1=>disj h (bl8_mem.1 h1).2 (bl8_mem.1 h2).2
   simp [h1,h2]
  ·simp [h2]
 ·rw [List.getElem?_eq_none_iff.2 (by rw [wS_len]; omega),List.getElem?_eq_none_iff.2 (by rw [whoF_len]; omega)]
theorem wS_two {n:Nat} {S T:List Nat} (i:Nat):(wS n S T)[i]? = some 2↔(whoF n T)[i]? = some 1:=by
 by_cases hi:i<n
 ·rw [wS_get _ _ hi,whoF_get _ hi]
  by_cases h2:i∈T
  ·simp [h2]
  ·simp only [h2,if_false]; split <;> simp
 ·rw [List.getElem?_eq_none_iff.2 (by rw [wS_len]; omega),List.getElem?_eq_none_iff.2 (by rw [whoF_len]; omega)]; simp
theorem stock39x {l:List It} {R:V→Prop} (h:R (bv (dcM (Stk l)))):K0G Try.prog glX 39 [.lst 3 (itl l)] R:=stock39M h
theorem sum117 {p:List (List It)} {who:List Nat} {m:Nat} {x:It} {R:V→Prop} (hp:p.length≤8) (hw:who.length=p.length) (hs : ∀ l∈p,Stk l) (h:R (iv (sumF p who m x))):K0G Try.prog glX 117 [.lst 1 (pll p),.lst 1 (ul who),sv m,iv x.1,u8v x.2.1] R:=by
  obtain ⟨x,y,z⟩:=x
  simp only
  refine K0_of_WY0 hmX hcRf 3000 Try.func117 (see (p:=La 0 [(0:Tmp),(1:Tmp),(2:Tmp),(3:Tmp),(4:Tmp),(11:Tmp),(12:Tmp)] (WY Try.prog cfR 2994 (Env.mk (Bs.mk 0 []) 0 none 35 117 0) (cdAt [1,1,0,1,0,0] (bodyOf Try.f117))) (Qblk 0 (Qthen (WY Try.prog cfR 2997 (Env.mk (Bs.mk 0 []) 0 none 35 117 0) (cdAt [1,1,1] (bodyOf Try.f117)) (QendX Try.prog Try.f117 fun v h=>R (frzW h v))) (QendX Try.prog Try.f117 fun v h=>R (frzW h v)))) (St.mk (mkT [(0,V.lst 1 (pll p)),(1,V.lst 1 (ul who)),(2,V.raw (Value.int IntKind.u8 (↑m:Int))),(3,iv x),(4,V.raw (Value.int IntKind.u8 y)),(11,iv (0:Int)),(12,iv (0:Int))]) (Hp.mk [] 0 []))) (by kernel_rfl) ?_)
  refine La.of (σ:=Int×Nat) (fun k=>sh117 p who m x y k.1 k.2) (fun k=>k.2≤p.length∧0≤k.1∧k.1≤(k.2:Int) * 1000∧sumF p who m (x,y,z)=k.1+sumF (p.drop k.2) (who.drop k.2) m (x,y,z)) (fun k=>p.length - k.2) (0,0) (by kernel_rfl) ⟨by simp,by simp,by simp,by simp⟩ ?_
  rintro ⟨n,k⟩ ⟨g1,g2,g3,g4⟩ J hJ
  simp only at g1 g2 g3 g4
  refine see (p:=ifB (decide ((↑k:Int)<(↑(pll p).length:Int))) (onSome (ul who)[k]? fun row=>onSome row[0]? fun v=>onIntK IntKind.u8 v fun n_1=>ifB (n_1==(↑m:Int)) (onSome (pll p)[k]? fun row=>onSome row[0]? fun v=>onLst v fun s es=>K0G Try.prog glX 96 [V.lst s es,iv x,V.raw (Value.int IntKind.u8 y)] fun v=>onIntK IntKind.i64 v fun n_2=>J (St.mk (mkT [(0,V.lst 1 (pll p)),(1,V.lst 1 (ul who)),(2,V.raw (Value.int IntKind.u8 (↑m:Int))),(3,iv x),(4,V.raw (Value.int IntKind.u8 y)),(11,iv (IntKind.i64.wrap (n+n_2))),(12,iv (IntKind.i64.wrap ((↑k:Int)+(1:Int))))]) (Hp.mk [] 0 []))) (J (St.mk (mkT [(0,V.lst 1 (pll p)),(1,V.lst 1 (ul who)),(2,V.raw (Value.int IntKind.u8 (↑m:Int))),(3,iv x),(4,V.raw (Value.int IntKind.u8 y)),(11,iv n),(12,iv (IntKind.i64.wrap ((↑k:Int)+(1:Int))))]) (Hp.mk [] 0 [])))) (R (iv n))) (by kernel_rfl) ?_
  rw [pll_length]
  refine ifB_mk (fun hb=>?_) (fun hb=>?_)
  · have hlt:k<p.length:=by have:=of_decide_eq_true hb; omega
    obtain ⟨l,hl⟩ : ∃ x,p[k]? = some x:=⟨p[k],by simp [hlt]⟩
    obtain ⟨w,hw'⟩ : ∃ x,who[k]? = some x:=⟨who[k],by simp [hw,hlt]⟩
    have hd:p.drop k=l::p.drop (k+1):=by
      rw [List.drop_eq_getElem_cons hlt]; congr 1; simpa [hlt] using hl
    have hd' : who.drop k=w::who.drop (k+1):=by
      rw [List.drop_eq_getElem_cons (by omega)]; congr 1; simpa [hw,hlt] using hw'
    rw [hd,hd'] at g4
    simp only [sumF] at g4
    rw [wr1i hlt (by omega)]
    refine ulel hw' (ifB_mk (fun h1=>?_) (fun h1=>?_))
    · have e : w = m := by have : (w : Int) = m := by simpa using h1
                           omega
      rw [if_pos e] at g4
      have hk:=hs l (List.mem_of_getElem? hl)
      have hh:=hasF_ok (fun y hy=>⟨by have:=(hk.2.2.2 y hy).1; omega,(hk.2.2.2 y hy).2⟩ : ∀ y∈l,0≤y.2.2∧y.2.2≤1000) x y
      refine pll_get hl (has96M (by have:=hk.1; omega) (onIntK_iv ?_))
      rw [hasM,wr (by omega) (by omega)]
      exact hJ (n+hasF l x y,k+1) ⟨by simp only; omega,by simp only; omega,by simp only; omega,by simp only; omega⟩ (by simp only; omega)
    · have e : ¬ w=m:=by rintro rfl; simp at h1
      rw [if_neg e] at g4
      exact hJ (n,k+1) ⟨by simp only; omega,by simp only; omega,by simp only; omega,by simp only; omega⟩ (by simp only; omega)
  · have hk:p.drop k=[]:=List.drop_eq_nil_of_le (by have:=of_decide_eq_false hb; omega)
    rw [hk] at g4
    simp only [sumF] at g4
    rw [show sumF p who m (x,y,z)=n from by omega] at h
    exact h
theorem planned73 {p:List (List It)} {v:List Int} {R:V→Prop} (hp:p.length≤1000) (hv:v.length≤1000) (h:R (iv (eAll p v))):K0G Try.prog glX 73 [.lst 1 (pll p),.lst 1 (nl v)] R:=by
  refine K0_of_WY0 hmX hcRf 3000 Try.func73 (see (p:=La 0 [(0:Tmp),(1:Tmp),(5:Tmp)] (WY Try.prog cfR 2995 (Env.mk (Bs.mk 0 []) 0 none 39 73 0) (cdAt [1,0,1,0,0] (bodyOf Try.f73))) (Qblk 0 (Qthen (WY Try.prog cfR 2998 (Env.mk (Bs.mk 0 []) 0 none 39 73 0) (cdAt [1,1] (bodyOf Try.f73)) (QendX Try.prog Try.f73 fun v h=>R (frzW h v))) (QendX Try.prog Try.f73 fun v h=>R (frzW h v)))) (St.mk (mkT [(0,V.lst 1 (pll p)),(1,V.lst 1 (nl v)),(5,iv (0:Int))]) (Hp.mk [] 0 []))) (by kernel_rfl) ?_)
  have nll : ∀ l:List Int,(nl l).length=l.length:=fun l=>by simp [nl]
  refine La.of (σ:=Nat) (fun k=>sh73a p v k) (fun k=>k≤p.length ∧ ∀ (i:Nat) l,i<k→p[i]? = some l→Stk l) (fun k=>p.length - k) 0 (by kernel_rfl) ⟨by simp,by simp⟩ ?_
  rintro k ⟨g1,g3⟩ J hJ
  refine see (p:=ifB (decide ((↑k:Int)<(↑(pll p).length:Int))) (onSome (pll p)[k]? fun row=>onSome row[0]? fun v_1=>onLst v_1 fun s es=>K0G Try.prog glX 39 [V.lst s es] fun v_2=>onBool v_2 fun b=>ifB (!b) (R (iv (8:Int))) (J (St.mk (mkT [(0,V.lst 1 (pll p)),(1,V.lst 1 (nl v)),(5,iv (IntKind.i64.wrap ((↑k:Int)+(1:Int))))]) (Hp.mk [] 0 [])))) (ifB (decide ((↑(pll p).length:Int) > (8:Int))) (R (iv (4:Int))) (ifB ((↑(nl v).length:Int) != (↑(pll p).length:Int)) (R (iv (2:Int))) (La 0 [(1:Tmp),(6:Tmp)] (WY Try.prog cfR 2992 (Env.mk (Bs.mk 0 []) 0 none 39 73 2) (cdAt [1,1,1,1,0,1,0,0] (bodyOf Try.f73))) (Qblk 2 (Qthen (WY Try.prog cfR 2995 (Env.mk (Bs.mk 0 []) 0 none 39 73 0) (cdAt [1,1,1,1,1] (bodyOf Try.f73)) (QendX Try.prog Try.f73 fun v h=>R (frzW h v))) (QendX Try.prog Try.f73 fun v h=>R (frzW h v)))) (St.mk (mkT [(1,V.lst 1 (nl v)),(6,iv (0:Int))]) (Hp.mk [] 0 [])))))) (by kernel_rfl) ?_
  rw [pll_length,nll]
  refine ifB_mk (fun hb=>?_) (fun hb=>?_)
  · have hlt:k<p.length:=by have:=of_decide_eq_true hb; omega
    obtain ⟨l,hl⟩ : ∃ x,p[k]? = some x:=⟨p[k],by simp [hlt]⟩
    refine pll_get hl (stock39x (onBool_bv (ifB_mk (fun c=>?_) (fun c=>?_))))
    · have hs : ¬ Stk l:=dc_falseM (by simpa using c)
      have e:eAll p v=8:=by unfold eAll; rw [if_neg (by rw [dc_fM (fun q=>hs (q l (List.mem_of_getElem? hl)))]; simp)]
      rw [e] at h
      exact h
    · have hs:Stk l:=dc_trueM (by simpa using c)
      rw [wr1i hlt (by omega)]
      refine hJ (k+1) ⟨by omega,fun i y hi hy=>?_⟩ (by omega)
      rcases Nat.lt_succ_iff_lt_or_eq.1 hi with q | q
      · exact g3 i y q hy
      · rw [q,hl] at hy; cases hy; exact hs
  · have hk:k=p.length:=by have:=of_decide_eq_false hb; omega
    have hall : ∀ l∈p,Stk l:=fun x hx=>by
      obtain ⟨i,hi⟩:=List.getElem?_of_mem hx
      exact g3 i x (by have:=(List.getElem?_eq_some_iff.1 hi).1; omega) hi
    unfold eAll at h
    rw [if_pos (dc_tM hall)] at h
    unfold ePl at h
    refine ifB_mk (fun c1=>?_) (fun c1=>?_)
    · rw [if_pos (by have:=of_decide_eq_true c1; omega)] at h
      exact h
    rw [if_neg (by have:=of_decide_eq_false c1; omega)] at h
    refine ifB_mk (fun c2=>?_) (fun c2=>?_)
    · rw [if_pos (by have : (v.length : Int) ≠ p.length := by simpa using c2
                     omega)] at h
      exact h
    have c2 : v.length = p.length := by have : (v.length : Int) = p.length := by simpa using c2
                                        omega
    rw [if_neg (by omega)] at h
    clear hJ
    refine La.of (σ:=Nat) (fun k=>sh73b v k) (fun k=>k≤v.length ∧ ∀ (i:Nat) x,i<k→v[i]? = some x→0≤x∧x≤1000) (fun k=>v.length - k) 0 (by kernel_rfl) ⟨by simp,by simp⟩ ?_
    clear g1 g3 hk hb
    rintro k ⟨g1,g3⟩ I hI
    refine see (p:=ifB (decide ((↑k:Int)<(↑(nl v).length:Int))) (onSome (nl v)[k]? fun row=>onSome row[0]? fun v_1=>onIntK IntKind.i64 v_1 fun n=>ifB (decide (n ≥ (0:Int))) (ifB (!decide (n≤(1000:Int))) (R (iv (2:Int))) (I (St.mk (mkT [(1,V.lst 1 (nl v)),(6,iv (IntKind.i64.wrap ((↑k:Int)+(1:Int))))]) (Hp.mk [] 0 [])))) (R (iv (2:Int)))) (R (iv (0:Int)))) (by kernel_rfl) ?_
    rw [nll]
    refine ifB_mk (fun hb=>?_) (fun hb=>?_)
    · have hlt:k<v.length:=by have:=of_decide_eq_true hb; omega
      obtain ⟨x,hx⟩ : ∃ x,v[k]? = some x:=⟨v[k],by simp [hlt]⟩
      have bad : ¬ (0≤x∧x≤1000)→R (iv 2):=fun hn=>by
        rw [if_neg (by rw [dc_fM (fun q=>hn (q x (List.mem_of_getElem? hx)))]; simp)] at h
        exact h
      refine iel hx (ifB_mk (fun a1=>ifB_mk (fun a2=>bad (fun q=>?_)) (fun a2=>?_)) (fun a1=>bad (fun q=>?_)))
      · have : ¬ x≤1000:=by simpa using a2
        exact this q.2
      · rw [wr1i hlt (by omega)]
        refine hI (k+1) ⟨by omega,fun i y hi hy=>?_⟩ (by omega)
        rcases Nat.lt_succ_iff_lt_or_eq.1 hi with q | q
        · exact g3 i y q hy
        · rw [q,hx] at hy; cases hy; exact ⟨by have:=of_decide_eq_true a1; omega,by simpa using a2⟩
      · exact (of_decide_eq_false a1) (by omega)
    · have hk:k=v.length:=by have:=of_decide_eq_false hb; omega
      rw [if_pos (dc_tM (fun x hx=>by
        obtain ⟨i,hi⟩:=List.getElem?_of_mem hx
        exact g3 i x (by have:=(List.getElem?_eq_some_iff.1 hi).1; omega) hi))] at h
      exact h
theorem fits74 {a:List It} {p:List (List It)} {w:List Nat} {m:Nat} {R:V→Prop} (ha:a.length≤1000) (hp:p.length≤8) (hw:w.length=p.length) (hs : ∀ l∈p,Stk l) (h:R (bv (dcM (Built a p w m)))):K0G Try.prog glX 74 [.lst 3 (itl a),.lst 1 (pll p),.lst 1 (ul w),sv m] R:=by
  refine K0_of_WY0 hmX hcRf 3000 Try.func74 (see (p:=La 0 [(0:Tmp),(1:Tmp),(2:Tmp),(3:Tmp),(9:Tmp)] (WY Try.prog cfR 2995 (Env.mk (Bs.mk 0 []) 0 none 57 74 0) (cdAt [1,0,1,0,0] (bodyOf Try.f74))) (Qblk 0 (Qthen (WY Try.prog cfR 2998 (Env.mk (Bs.mk 0 []) 0 none 57 74 0) (cdAt [1,1] (bodyOf Try.f74)) (QendX Try.prog Try.f74 fun v h=>R (frzW h v))) (QendX Try.prog Try.f74 fun v h=>R (frzW h v)))) (St.mk (mkT [(0,V.lst 3 (itl a)),(1,V.lst 1 (pll p)),(2,V.lst 1 (ul w)),(3,V.raw (Value.int IntKind.u8 (↑m:Int))),(9,iv (0:Int))]) (Hp.mk [] 0 []))) (by kernel_rfl) ?_)
  refine La.of (σ:=Nat) (fun k=>sh74a a p w m k) (fun k=>k≤p.length ∧ ∀ (i:Nat) l,i<k→p[i]? = some l→w[i]? = some m → ∀ x∈l,sumF p w m x≤hasF a x.1 x.2.1) (fun k=>p.length - k) 0 (by kernel_rfl) ⟨by simp,by simp⟩ ?_
  rintro k ⟨g1,g3⟩ J hJ
  refine see (p:=ifB (decide ((↑k:Int)<(↑(pll p).length:Int))) (La 0 [(0:Tmp),(1:Tmp),(2:Tmp),(3:Tmp),(9:Tmp),(10:Tmp)] (WY Try.prog cfR 2989 (Env.mk (Bs.mk 0 []) 0 none 57 74 2) (cdAt [1,0,1,0,0,1,0,0,1,0,0] (bodyOf Try.f74))) (Qblk 2 (Qblk 1 (Qthen (WY Try.prog cfR 2993 (Env.mk (Bs.mk 0 []) 0 none 57 74 0) (cdAt [1,0,1,0,0,1,1] (bodyOf Try.f74)) (Qla 0 [(0:Tmp),(1:Tmp),(2:Tmp),(3:Tmp),(9:Tmp)] J (Qblk 0 (Qthen (WY Try.prog cfR 2998 (Env.mk (Bs.mk 0 []) 0 none 57 74 0) (cdAt [1,1] (bodyOf Try.f74)) (QendX Try.prog Try.f74 fun v h=>R (frzW h v))) (QendX Try.prog Try.f74 fun v h=>R (frzW h v)))))) (Qla 0 [(0:Tmp),(1:Tmp),(2:Tmp),(3:Tmp),(9:Tmp)] J (Qblk 0 (Qthen (WY Try.prog cfR 2998 (Env.mk (Bs.mk 0 []) 0 none 57 74 0) (cdAt [1,1] (bodyOf Try.f74)) (QendX Try.prog Try.f74 fun v h=>R (frzW h v))) (QendX Try.prog Try.f74 fun v h=>R (frzW h v)))))))) (St.mk (mkT [(0,V.lst 3 (itl a)),(1,V.lst 1 (pll p)),(2,V.lst 1 (ul w)),(3,V.raw (Value.int IntKind.u8 (↑m:Int))),(9,iv (↑k:Int)),(10,iv (0:Int))]) (Hp.mk [] 0 []))) (R (bv true))) (by kernel_rfl) ?_
  rw [pll_length]
  refine ifB_mk (fun hb=>?_) (fun hb=>?_)
  · have hlt:k<p.length:=by have:=of_decide_eq_true hb; omega
    obtain ⟨l,hl⟩ : ∃ x,p[k]? = some x:=⟨p[k],by simp [hlt]⟩
    obtain ⟨u,hu⟩ : ∃ x,w[k]? = some x:=⟨w[k],by simp [hw,hlt]⟩
    have hk:=hs l (List.mem_of_getElem? hl)
    have hk30:=hk.1
    refine La.of (σ:=Nat) (fun j=>sh74b a p w m k j) (fun j=>j≤l.length ∧ ∀ (i:Nat) x,i<j→l[i]? = some x→u=m→sumF p w m x≤hasF a x.1 x.2.1) (fun j=>l.length - j) 0 (by kernel_rfl) ⟨by simp,by simp⟩ ?_
    rintro j ⟨f1,f3⟩ I hI
    refine see (p:=onSome (pll p)[k]? fun row=>onSome row[0]? fun v=>onLst v fun s es=>ifB (decide ((↑j:Int)<(↑es.length:Int))) (onSome (pll p)[k]? fun row=>onSome row[0]? fun v=>onLst v fun s es=>need (s=3) (onSome es[j]? fun row=>onCons (List.drop 0 row) fun u r=>onIntK IntKind.i64 u fun n=>onCons r fun u r=>onIntK IntKind.u8 u fun n_1=>onCons r fun u r=>onIntK IntKind.i64 u fun n_2=>onSome (ul w)[k]? fun row=>onSome row[0]? fun v=>onIntK IntKind.u8 v fun n_3=>ifB (n_3==(↑m:Int)) (K0G Try.prog glX 117 [V.lst 1 (pll p),V.lst 1 (ul w),V.raw (Value.int IntKind.u8 (↑m:Int)),iv n,V.raw (Value.int IntKind.u8 n_1)] fun v=>onIntK IntKind.i64 v fun n_4=>K0G Try.prog glX 96 [V.lst 3 (itl a),iv n,V.raw (Value.int IntKind.u8 n_1)] fun v=>onIntK IntKind.i64 v fun n=>ifB (decide (n_4 > n)) (R (bv false)) (I (St.mk (mkT [(0,V.lst 3 (itl a)),(1,V.lst 1 (pll p)),(2,V.lst 1 (ul w)),(3,V.raw (Value.int IntKind.u8 (↑m:Int))),(9,iv (↑k:Int)),(10,iv (IntKind.i64.wrap ((↑j:Int)+(1:Int))))]) (Hp.mk [] 0 [])))) (I (St.mk (mkT [(0,V.lst 3 (itl a)),(1,V.lst 1 (pll p)),(2,V.lst 1 (ul w)),(3,V.raw (Value.int IntKind.u8 (↑m:Int))),(9,iv (↑k:Int)),(10,iv (IntKind.i64.wrap ((↑j:Int)+(1:Int))))]) (Hp.mk [] 0 []))))) (J (St.mk (mkT [(0,V.lst 3 (itl a)),(1,V.lst 1 (pll p)),(2,V.lst 1 (ul w)),(3,V.raw (Value.int IntKind.u8 (↑m:Int))),(9,iv (IntKind.i64.wrap ((↑k:Int)+(1:Int))))]) (Hp.mk [] 0 [])))) (by kernel_rfl) ?_
    refine pll_get hl ?_
    rw [itl_length]
    refine ifB_mk (fun hb2=>?_) (fun hb2=>?_)
    · have hj:j<l.length:=by have:=of_decide_eq_true hb2; omega
      obtain ⟨x,hx⟩ : ∃ x,l[j]? = some x:=⟨l[j],by simp [hj]⟩
      refine pll_get hl (need_mk ⟨rfl,onSome_mk (itl_get hx) (onCons_cons (onIntK_iv (onCons_cons (onIntK_u8 (onCons_cons (onIntK_iv (ulel hu ?_)))))))⟩)
      rw [wr1i hj (by omega)]
      have next:(u=m→sumF p w m x≤hasF a x.1 x.2.1)→I (sh74b a p w m k (j+1)):=fun q=>hI (j+1) ⟨hj,fun i y hi hy e=>by
        rcases Nat.lt_succ_iff_lt_or_eq.1 hi with r | r
        · exact f3 i y r hy e
        · rw [r,hx] at hy; cases hy; exact q e⟩ (by omega)
      refine ifB_mk (fun c=>?_) (fun c=>next (fun e=>by rw [e] at c; simp at c))
      have e : u = m := by have : (u : Int) = m := by simpa using c
                           omega
      refine sum117 (x:=x) hp hw hs (onIntK_iv (has96M ha (onIntK_iv ?_)))
      rw [hasM]
      refine ifB_mk (fun d=>?_) (fun d=>?_)
      · have d:=of_decide_eq_true d
        rw [dc_fM (fun q=>by have:=q k l hl (e ▸ hu) x (List.mem_of_getElem? hx); omega)] at h
        exact h
      · have d:=of_decide_eq_false d
        exact next (fun _=>by omega)
    · have hj:j=l.length:=by have:=of_decide_eq_false hb2; omega
      rw [wr1i hlt (by omega)]
      refine hJ (k+1) ⟨by omega,fun i y hi hy hwi=>?_⟩ (by omega)
      rcases Nat.lt_succ_iff_lt_or_eq.1 hi with q | q
      · exact g3 i y q hy hwi
      · rw [q] at hy hwi
        rw [hl] at hy
        rw [hu] at hwi
        cases hy
        cases hwi
        intro x hx
        obtain ⟨i,hi⟩:=List.getElem?_of_mem hx
        exact f3 i x (by have:=(List.getElem?_eq_some_iff.1 hi).1; omega) hi rfl
  · have hk:k=p.length:=by have:=of_decide_eq_false hb; omega
    rw [dc_tM (show Built a p w m from fun i l hl hwi=>g3 i l (by have:=(List.getElem?_eq_some_iff.1 hl).1; omega) hl hwi)] at h
    exact h
def FstP (a b:List Nat):Prop:=a.length<b.length∨a.length=b.length∧LexL a b
theorem first75 {a b:List Nat} {u s:Nat} {R:V→Prop} (hu:u=1∨a=[]) (hs:s=1∨b=[]) (ha:a.length≤1000) (h:R (bv (dcM (FstP a b)))):K0G Try.prog glX 75 [.lst u (nn a),.lst s (nn b)] R:=by
  refine K0_of_WY0 hmX hcRf 3000 Try.func75 (see (p:=ifB ((↑(nn a).length:Int) != (↑(nn b).length:Int)) (R (bv (decide ((↑(nn a).length:Int)<(↑(nn b).length:Int))))) (La 0 [(0:Tmp),(1:Tmp),(5:Tmp)] (WY Try.prog cfR 2994 (Env.mk (Bs.mk 0 []) 0 none 40 75 0) (cdAt [1,1,0,1,0,0] (bodyOf Try.f75))) (Qblk 0 (Qthen (WY Try.prog cfR 2997 (Env.mk (Bs.mk 0 []) 0 none 40 75 0) (cdAt [1,1,1] (bodyOf Try.f75)) (QendX Try.prog Try.f75 fun v h=>R (frzW h v))) (QendX Try.prog Try.f75 fun v h=>R (frzW h v)))) (St.mk (mkT [(0,V.lst u (nn a)),(1,V.lst s (nn b)),(5,iv (0:Int))]) (Hp.mk [] 0 [])))) (by kernel_rfl) ?_)
  rw [nn_length,nn_length]
  refine ifB_mk (fun c=>?_) (fun c=>?_)
  · have c : a.length ≠ b.length := by have : (a.length : Int) ≠ b.length := by simpa using c
                                       omega
    have e:dcM (FstP a b)=decide ((a.length:Int)<(b.length:Int)):=by
      unfold FstP
      by_cases q:a.length<b.length
      · rw [dc_tM (.inl q),decide_eq_true (by omega)]
      · rw [dc_fM (fun r=>by omega),decide_eq_false (by omega)]
    rw [e] at h
    exact h
  · have c : a.length = b.length := by have : (a.length : Int) = b.length := by simpa using c
                                       omega
    refine La.of (σ:=Nat) (fun k=>sh75 u s a b k) (fun k=>k≤a.length∧a.take k=b.take k) (fun k=>a.length - k) 0 (by kernel_rfl) (by simp) ?_
    rintro k ⟨g1,g2⟩ J hJ
    refine see (p:=ifB (decide ((↑k:Int)<(↑(nn a).length:Int))) (need (u=1) (onSome (nn a)[k]? fun row=>onSome row[0]? fun v=>onIntK IntKind.i64 v fun n=>need (s=1) (onSome (nn b)[k]? fun row=>onSome row[0]? fun v=>onIntK IntKind.i64 v fun n_1=>ifB (n != n_1) (need (u=1) (onSome (nn a)[k]? fun row=>onSome row[0]? fun v=>onIntK IntKind.i64 v fun n=>need (s=1) (onSome (nn b)[k]? fun row=>onSome row[0]? fun v=>onIntK IntKind.i64 v fun n_2=>R (bv (decide (n<n_2)))))) (J (St.mk (mkT [(0,V.lst u (nn a)),(1,V.lst s (nn b)),(5,iv (IntKind.i64.wrap ((↑k:Int)+(1:Int))))]) (Hp.mk [] 0 [])))))) (R (bv false))) (by kernel_rfl) ?_
    rw [nn_length]
    refine ifB_mk (fun hb=>?_) (fun hb=>?_)
    · have hlt:k<a.length:=by have:=of_decide_eq_true hb; omega
      have e1:a[k]? = some (a.getD k 0):=by simp [List.getD,hlt]
      have e2:b[k]? = some (b.getD k 0):=by simp [List.getD,show k<b.length from by omega]
      have hu1:u=1:=hu.resolve_right (by rintro rfl; simp at hlt)
      have hs1:s=1:=hs.resolve_right (by rintro rfl; simp at c; rw [c] at hlt; simp at hlt)
      refine need_mk ⟨hu1,nel e1 (need_mk ⟨hs1,nel e2 (ifB_mk (fun d=>need_mk ⟨hu1,nel e1 (need_mk ⟨hs1,nel e2 ?_⟩)⟩) (fun d=>?_))⟩)⟩
      · have d : a.getD k 0 ≠ b.getD k 0 := by have : ((a.getD k 0 : Nat) : Int) ≠ (b.getD k 0 : Nat) := by simpa using d
                                               omega
        have e:dcM (FstP a b)=decide (((a.getD k 0:Nat):Int)<((b.getD k 0:Nat):Int)):=by
          unfold FstP
          by_cases q:a.getD k 0<b.getD k 0
          · rw [dc_tM (.inr ⟨c,k,_,_,g2,e1,e2,q⟩),decide_eq_true (by omega)]
          · rw [dc_fM (fun r=>by
              rcases r with r | ⟨_,r⟩
              · omega
              · exact (r.trans ⟨k,_,_,g2.symm,e2,e1,by omega⟩).irr),decide_eq_false (by omega)]
        rw [e] at h
        exact h
      · have d : a.getD k 0 = b.getD k 0 := by have : ((a.getD k 0 : Nat) : Int) = (b.getD k 0 : Nat) := by simpa using d
                                               omega
        rw [wr1i hlt (by omega)]
        exact hJ (k+1) ⟨hlt,take_snoc g2 e1 (d ▸ e2)⟩ (by omega)
    · have hk:k=a.length:=by have:=of_decide_eq_false hb; omega
      rw [hk,List.take_length,c,List.take_length] at g2
      rw [dc_fM (fun r=>by
        rcases r with r | ⟨_,r⟩
        · omega
        · exact (g2 ▸ r).irr)] at h
      exact h
def resF (p:List (List It)) (w:List Nat) (m:Nat) (a:List It):List It:=a.filterMap fun x=>if 0<x.2.2 - sumF p w m x then some (x.1,x.2.1,x.2.2 - sumF p w m x) else none
theorem resF_succ {p:List (List It)} {w:List Nat} {m:Nat} {a:List It} {k:Nat} {x:It} (h:a[k]? = some x):resF p w m (a.take (k+1))=resF p w m (a.take k)++if 0<x.2.2 - sumF p w m x then [(x.1,x.2.1,x.2.2 - sumF p w m x)] else []:=by
 unfold resF
 rw [List.take_add_one,h,List.filterMap_append]
 congr 1
 simp only [Option.toList_some,List.filterMap_cons,List.filterMap_nil]
 split <;> rename_i q
 ·split at q
  ·cases q
  ·rename_i r; rw [if_neg r]
 ·split at q
  ·rename_i r
   rw [Option.some.injEq] at q
   rw [if_pos r,q]
  ·cases q
theorem resF_len (p:List (List It)) (w:List Nat) (m:Nat) (a:List It):(resF p w m a).length≤a.length:=List.length_filterMap_le _ _
noncomputable def fa76 (a:List It) (p:List (List It)) (w:List Nat) (m:Nat) (l:List It) (k:Nat):St:=match l with | []=>sh76n a p w m k | c::r=>sh76s a p w m (c::r) k
theorem fa76_s {a:List It} {p:List (List It)} {w:List Nat} {m k:Nat} {l:List It} (h:l≠[]):fa76 a p w m l k=sh76s a p w m l k:=by cases l with | nil=>exact (h rfl).elim | cons c r=>rfl
theorem sumF_bd {m:Nat} {x:It} : ∀ {p:List (List It)} (w:List Nat),(∀ l∈p,Stk l)→0≤sumF p w m x∧sumF p w m x≤(p.length:Int) * 1000
 | [],w,_=>by cases w <;> simp [sumF]
 | l::p,[],_=>by simp [sumF]; omega
 | l::p,u::w,hs=>by
  have ih:=sumF_bd (m:=m) (x:=x) (p:=p) w (fun l hl=>hs l (by simp [hl]))
  have hk:=hs l (by simp)
  have hh:=hasF_ok (fun y hy=>⟨by have:=(hk.2.2.2 y hy).1; omega,(hk.2.2.2 y hy).2⟩ : ∀ y∈l,0≤y.2.2∧y.2.2≤1000) x.1 x.2.1
  simp only [sumF,List.length_cons]
  split <;> omega
theorem rest76 {a:List It} {p:List (List It)} {w:List Nat} {m:Nat} {R:V→Prop} (ha:Stk a) (hp:p.length≤8) (hw:w.length=p.length) (hs : ∀ l∈p,Stk l) (h:R (lsI (resF p w m a))):K0G Try.prog glX 76 [.lst 3 (itl a),.lst 1 (pll p),.lst 1 (ul w),sv m] R:=by
 refine K0_of_WY0 hmX hcRf 3000 Try.func76 (see (p:=La 0 [(0:Tmp),(1:Tmp),(2:Tmp),(3:Tmp),(9:Tmp),(10:Tmp)] (WY Try.prog cfR 2994 (Env.mk (Bs.mk 0 []) 0 none 42 76 0) (cdAt [1,1,0,1,0,0] (bodyOf Try.f76))) (Qblk 0 (Qthen (WY Try.prog cfR 2997 (Env.mk (Bs.mk 0 []) 0 none 42 76 0) (cdAt [1,1,1] (bodyOf Try.f76)) (QendX Try.prog Try.f76 fun v h=>R (frzW h v))) (QendX Try.prog Try.f76 fun v h=>R (frzW h v)))) (St.mk (mkT [(0,V.lst 3 (itl a)),(1,V.lst 1 (pll p)),(2,V.lst 1 (ul w)),(3,V.raw (Value.int IntKind.u8 (↑m:Int))),(9,nilS),(10,iv (0:Int))]) (Hp.mk [] 0 []))) (by kernel_rfl) ?_)
 have ha30:=ha.1
 refine La.of (σ:=Nat) (fun k=>fa76 a p w m (resF p w m (a.take k)) k) (fun k=>k≤a.length) (fun k=>a.length - k) 0 (by kernel_rfl) (by omega) ?_
 rintro k g1 J hJ
 obtain ⟨l,hl⟩ : ∃ l,l=resF p w m (a.take k):=⟨_,rfl⟩
 have hll:l.length≤30:=by
  have:=resF_len p w m (a.take k)
  rw [List.length_take,← hl] at this
  omega
 rw [← hl]
 have step : ∀ x,a[k]? = some x→k<a.length→J (fa76 a p w m (l++if 0<x.2.2 - sumF p w m x then [(x.1,x.2.1,x.2.2 - sumF p w m x)] else []) (k+1)):=by
  intro x hx hk
  have:=hJ (k+1) hk (by omega)
  rwa [resF_succ hx,← hl] at this
 have bd : ∀ x,a[k]? = some x→IntKind.i64.wrap (x.2.2 - sumF p w m x)=x.2.2 - sumF p w m x:=by
  intro x hx
  have h1:=ha.2.2.2 x (List.mem_of_getElem? hx)
  have h2:=sumF_bd (m:=m) (x:=x) w hs
  exact wr (by omega) (by omega)
 have done:k=a.length→R (lsI l):=fun hk=>by rw [hl,hk,List.take_length]; exact h
 cases hc:l with
 | nil =>
  rw [hc] at step done
  refine see (p:=ifB (decide ((↑k:Int)<(↑(itl a).length:Int))) (onSome (itl a)[k]? fun row=>onCons (List.drop 0 row) fun u r=>onIntK IntKind.i64 u fun n=>onCons r fun u r=>onIntK IntKind.u8 u fun n_1=>onCons r fun u r=>onIntK IntKind.i64 u fun n_2=>K0G Try.prog glX 117 [V.lst 1 (pll p),V.lst 1 (ul w),V.raw (Value.int IntKind.u8 (↑m:Int)),iv n,V.raw (Value.int IntKind.u8 n_1)] fun v=>onIntK IntKind.i64 v fun n_3=>ifB (decide (IntKind.i64.wrap (n_2 - n_3) > (0:Int))) (J (St.mk (mkT [(0,V.lst 3 (itl a)),(1,V.lst 1 (pll p)),(2,V.lst 1 (ul w)),(3,V.raw (Value.int IntKind.u8 (↑m:Int))),(9,V.sl (Id.p 0) 0 1),(10,iv (IntKind.i64.wrap ((↑k:Int)+(1:Int))))]) (Hp.mk [(0,O.rows 3 true [[iv n,V.raw (Value.int IntKind.u8 n_1),iv (IntKind.i64.wrap (n_2 - n_3))]])] 1 []))) (J (St.mk (mkT [(0,V.lst 3 (itl a)),(1,V.lst 1 (pll p)),(2,V.lst 1 (ul w)),(3,V.raw (Value.int IntKind.u8 (↑m:Int))),(9,nilS),(10,iv (IntKind.i64.wrap ((↑k:Int)+(1:Int))))]) (Hp.mk [] 0 [])))) (R nilS)) (by kernel_rfl) ?_
  rw [itl_length]
  refine ifB_mk (fun d=>?_) (fun d=>?_)
  ·have hk:k<a.length:=by have:=of_decide_eq_true d; omega
   obtain ⟨x,hx⟩ : ∃ x,a[k]? = some x:=⟨a[k],by simp [hk]⟩
   have st:=step x hx hk
   refine onSome_mk (itl_get hx) (onCons_cons (onIntK_iv (onCons_cons (onIntK_u8 (onCons_cons (onIntK_iv (sum117 (x:=x) hp hw hs (onIntK_iv ?_))))))))
   rw [bd x hx,wr1i hk (by omega)]
   refine ifB_mk (fun e=>?_) (fun e=>?_)
   ·rw [if_pos (by have:=of_decide_eq_true e; omega)] at st
    exact see (by kernel_rfl) st
   ·rw [if_neg (by have:=of_decide_eq_false e; omega)] at st
    exact see (by kernel_rfl) st
  ·exact done (by have:=of_decide_eq_false d; omega)
 | cons c0 r0 =>
  rw [← hc]
  have hcn:l≠[]:=by rw [hc]; simp
  rw [fa76_s hcn]
  refine see (p:=ifB (decide ((↑k:Int)<(↑(itl a).length:Int))) (onSome (itl a)[k]? fun row=>onCons (List.drop 0 row) fun u r=>onIntK IntKind.i64 u fun n=>onCons r fun u r=>onIntK IntKind.u8 u fun n_1=>onCons r fun u r=>onIntK IntKind.i64 u fun n_2=>K0G Try.prog glX 117 [V.lst 1 (pll p),V.lst 1 (ul w),V.raw (Value.int IntKind.u8 (↑m:Int)),iv n,V.raw (Value.int IntKind.u8 n_1)] fun v=>onIntK IntKind.i64 v fun n_3=>ifB (decide (IntKind.i64.wrap (n_2 - n_3) > (0:Int))) (need ((l.length+1) * 24≤140737488355328) (J (St.mk (mkT [(0,V.lst 3 (itl a)),(1,V.lst 1 (pll p)),(2,V.lst 1 (ul w)),(3,V.raw (Value.int IntKind.u8 (↑m:Int))),(9,V.sl (Id.p 0) 0 (l.length+1)),(10,iv (IntKind.i64.wrap ((↑k:Int)+(1:Int))))]) (Hp.mk [(0,O.rows 3 true (List.take l.length (itl l)++[[iv n,V.raw (Value.int IntKind.u8 n_1),iv (IntKind.i64.wrap (n_2 - n_3))]]))] 1 [])))) (J (St.mk (mkT [(0,V.lst 3 (itl a)),(1,V.lst 1 (pll p)),(2,V.lst 1 (ul w)),(3,V.raw (Value.int IntKind.u8 (↑m:Int))),(9,V.sl (Id.p 0) 0 l.length),(10,iv (IntKind.i64.wrap ((↑k:Int)+(1:Int))))]) (Hp.mk [(0,O.rows 3 true (itl l))] 1 [])))) (R (V.lst 3 (sub (itl l) 0 l.length)))) (by kernel_rfl) ?_
  rw [itl_length]
  refine ifB_mk (fun d=>?_) (fun d=>?_)
  ·have hk:k<a.length:=by have:=of_decide_eq_true d; omega
   obtain ⟨x,hx⟩ : ∃ x,a[k]? = some x:=⟨a[k],by simp [hk]⟩
   have st:=step x hx hk
   refine onSome_mk (itl_get hx) (onCons_cons (onIntK_iv (onCons_cons (onIntK_u8 (onCons_cons (onIntK_iv (sum117 (x:=x) hp hw hs (onIntK_iv ?_))))))))
   rw [bd x hx,wr1i hk (by omega)]
   refine ifB_mk (fun e=>?_) (fun e=>?_)
   ·rw [if_pos (by have:=of_decide_eq_true e; omega),fa76_s (by simp)] at st
    refine need_mk ⟨by omega,?_⟩
    rw [itl_take]
    refine hJ' ?_ st
    simp only [sh76s,itl,List.map_append,List.length_append,List.length_singleton,List.map_cons,List.map_nil]
    rfl
   ·rw [if_neg (by have:=of_decide_eq_false e; omega),List.append_nil,fa76_s hcn] at st
    exact see (by kernel_rfl) st
  ·have:=done (by have:=of_decide_eq_false d; omega)
   rw [lsI_b hcn] at this
   rw [show sub (itl l) 0 l.length=itl l from by rw [← itl_length]; exact sub_all _]
   exact this
set_option maxRecDepth 100000
noncomputable def sh29a (a b:List It) (p:List (List It)) (v:List Int) (N:Int) (k:Nat):St:=⟨mkT [(0,V.lst 3 (itl a)),(1,V.lst 3 (itl b)),(2,V.lst 1 (pll p)),(3,V.lst 1 (nl v)),(12,iv N),(13,iv (k:Int))],⟨[],0,[]⟩⟩
noncomputable def sh29bn (a b:List It) (p:List (List It)) (v:List Int) (N z:Int) (n:Nat):St:=⟨mkT [(0,V.lst 3 (itl a)),(1,V.lst 3 (itl b)),(2,V.lst 1 (pll p)),(3,V.lst 1 (nl v)),(12,iv N),(14,iv z),(15,nilS),(16,iv (n:Int))],⟨[],0,[]⟩⟩
noncomputable def sh29bs (a b:List It) (p:List (List It)) (v:List Int) (N z:Int) (u:List Nat) (n:Nat):St:=⟨mkT [(0,V.lst 3 (itl a)),(1,V.lst 3 (itl b)),(2,V.lst 1 (pll p)),(3,V.lst 1 (nl v)),(12,iv N),(14,iv z),(15,V.lst 1 (ul u)),(16,iv (n:Int))],⟨[],0,[]⟩⟩
noncomputable def sh29cn (a b:List It) (p:List (List It)) (v:List Int) (N z:Int) (n L:Nat) (w:List Nat) (y x i:Int):St:=⟨mkT [(0,V.lst 3 (itl a)),(1,V.lst 3 (itl b)),(2,V.lst 1 (pll p)),(3,V.lst 1 (nl v)),(12,iv N),(14,iv z),(15,nilS),(16,iv (n:Int)),(17,V.sl (Id.p 0) 0 L),(18,iv y),(19,iv x),(20,iv i)],⟨[(0,O.rows 1 true (ul w))],1,[]⟩⟩
noncomputable def sh29cs (a b:List It) (p:List (List It)) (v:List Int) (N z:Int) (u:List Nat) (n L:Nat) (w:List Nat) (y x i:Int):St:=⟨mkT [(0,V.lst 3 (itl a)),(1,V.lst 3 (itl b)),(2,V.lst 1 (pll p)),(3,V.lst 1 (nl v)),(12,iv N),(14,iv z),(15,V.lst 1 (ul u)),(16,iv (n:Int)),(17,V.sl (Id.p 0) 0 L),(18,iv y),(19,iv x),(20,iv i)],⟨[(0,O.rows 1 true (ul w))],1,[]⟩⟩
set_option maxRecDepth 10000
def dg (L n j:Nat):Nat:=(n / 3 ^ (L - 1 - j)) % 3
def dgW (L n c:Nat):List Nat:=(List.range L).map fun j=>if L≤j+c then dg L n j else 0
def dgV (v:List Int) (L n c:Nat):Int:=sumN (fun j=>if L≤j+c∧dg L n j≠0 then v.getD j 0 else 0) (List.range L)
theorem dgW_len (L n c:Nat):(dgW L n c).length=L:=by simp [dgW]
theorem dgW_get {L n c j:Nat} (h:j<L):(dgW L n c)[j]? = some (if L≤j+c then dg L n j else 0):=by simp [dgW,h]
theorem dgW_set {L n c:Nat} (h:c<L):(dgW L n c).set (L - 1 - c) (dg L n (L - 1 - c))=dgW L n (c+1):=by
 apply List.ext_getElem?
 intro i
 rw [List.getElem?_set,dgW_len]
 by_cases hi:i<L
 ·rw [dgW_get hi,dgW_get hi]
  by_cases e:L - 1 - c=i
  ·rw [if_pos e,if_pos (by omega),if_pos (by omega),e]
  ·rw [if_neg e]
   by_cases q:L≤i+c
   ·rw [if_pos q,if_pos (by omega)]
   ·rw [if_neg q,if_neg (by omega)]
 ·rw [List.getElem?_eq_none_iff.2 (by rw [dgW_len]; omega),List.getElem?_eq_none_iff.2 (by rw [dgW_len]; omega),if_neg (by omega)]
theorem dgW_zero (L n:Nat):List.replicate L [V.raw (Value.int IntKind.u8 (0:Int))]=ul (dgW L n 0):=by
 apply List.ext_getElem?
 intro i
 by_cases hi:i<L
 ·rw [ul_get (dgW_get hi),if_neg (by omega)]
  simp [hi,sv,u8v]
 ·rw [List.getElem?_eq_none_iff.2 (by simp; omega),List.getElem?_eq_none_iff.2 (by rw [ul_length,dgW_len]; omega)]
theorem sum_one (X:Int) (j0:Nat) : ∀ L,sumN (fun j=>if j=j0 then X else 0) (List.range L)=if j0<L then X else 0
 | 0=>by simp [sumN]
 | L+1=>by
  have ih:=sum_one X j0 L
  unfold sumN at *
  rw [List.range_succ,List.map_append,List.sum_append,ih]
  simp only [List.map_cons,List.map_nil,List.sum_cons,List.sum_nil]
  by_cases h1:j0<L
  ·rw [if_pos h1,if_neg (by omega),if_pos (by omega)]; omega
  ·by_cases h2:L=j0
   ·rw [if_neg h1,if_pos h2,if_pos (by omega)]; omega
   ·rw [if_neg h1,if_neg h2,if_neg (by omega)]; omega
theorem dgV_succ {v:List Int} {L n c:Nat} (h:c<L):dgV v L n (c+1)=dgV v L n c+if dg L n (L - 1 - c)≠0 then v.getD (L - 1 - c) 0 else 0:=by
 obtain ⟨X,hX⟩ : ∃ X:Int,X=if dg L n (L - 1 - c)≠0 then v.getD (L - 1 - c) 0 else 0:=⟨_,rfl⟩
 rw [← hX]
 have h1:=sum_one X (L - 1 - c) L
 rw [if_pos (by omega)] at h1
 rw [← h1]
 unfold dgV
 rw [← sumN_add]
 refine sumN_ext fun j hj=>?_
 have hj:=List.mem_range.1 hj
 by_cases e:j=L - 1 - c
 ·subst e
  have n1 : ¬ (L≤L - 1 - c+c∧dg L n (L - 1 - c)≠0):=fun q=>by omega
  rw [show (if L - 1 - c=L - 1 - c then X else 0)=X from if_pos rfl,hX,if_neg n1]
  by_cases q:dg L n (L - 1 - c)≠0
  ·rw [if_pos ⟨by omega,q⟩,if_pos q]; omega
  ·rw [if_neg (fun r=>q r.2),if_neg q]; omega
 ·rw [show (if j=L - 1 - c then X else 0)=0 from if_neg e]
  by_cases q:L≤j+c∧dg L n j≠0
  ·rw [if_pos q,if_pos ⟨by omega,q.2⟩]; omega
  ·rw [if_neg q,if_neg (fun r=>q ⟨by omega,r.2⟩)]; omega
theorem sumN_zero : ∀ q:List Nat,sumN (fun _=>0) q=0
 | []=>rfl
 | i::q=>by
  have:=sumN_zero q
  unfold sumN at *
  rw [List.map_cons,List.sum_cons,this]; rfl
theorem dgV_zero (v:List Int) (L n:Nat):dgV v L n 0=0:=by
 unfold dgV
 have:sumN (fun j=>if L≤j+0∧dg L n j≠0 then v.getD j 0 else 0) (List.range L)=sumN (fun _=>0) (List.range L):=sumN_ext fun j hj=>by
  have hj:=List.mem_range.1 hj
  rw [if_neg (fun r=>by omega)]
 rw [this]
 exact sumN_zero _
theorem sumN_bd {f:Nat→Int} (h : ∀ i,0≤f i∧f i≤1000) : ∀ q:List Nat,0≤sumN f q∧sumN f q≤(q.length:Int) * 1000
 | []=>by simp [sumN]
 | i::q=>by
  have ih:=sumN_bd h q
  have:=h i
  unfold sumN at *
  simp only [List.map_cons,List.sum_cons,List.length_cons]
  omega
theorem getD_bd {v:List Int} (hv : ∀ x∈v,0≤x∧x≤1000) (k:Nat):0≤v.getD k 0∧v.getD k 0≤1000:=by
 rw [List.getD_eq_getElem?_getD]
 cases e:v[k]? with
 | none=>simp
 | some x=>exact hv x (List.mem_of_getElem? e)
theorem dgV_bd {v:List Int} (hv : ∀ x∈v,0≤x∧x≤1000) (L n c:Nat):0≤dgV v L n c∧dgV v L n c≤(L:Int) * 1000:=by
 have:=sumN_bd (f:=fun j=>if L≤j+c∧dg L n j≠0 then v.getD j 0 else 0) (fun i=>by
  have:=getD_bd hv i
  split <;> omega) (List.range L)
 rw [List.length_range] at this
 exact this
theorem tmod3 (k:Nat):((k:Int).tmod 3)=((k % 3:Nat):Int):=by
 rw [Int.ofNat_tmod]; rfl
theorem tdiv3 (k:Nat):((k:Int).tdiv 3)=((k / 3:Nat):Int):=by
 rw [Int.ofNat_tdiv]; rfl
theorem pow3 {k:Nat} (h:k≤8):3 ^ k≤6561:=Nat.pow_le_pow_right (n:=3) (by omega) h
def FitN (a b:List It) (p:List (List It)) (n:Nat):Prop:=Built a p (dgW p.length n p.length) 1∧Built b p (dgW p.length n p.length) 2
noncomputable def fam29 (a b:List It) (p:List (List It)) (v:List Int) (N:Int) (s:Nat×Option Nat):St:=match s.2 with | none=>sh29bn a b p v N (-1) s.1 | some n0=>sh29bs a b p v N (dgV v p.length n0 p.length) (dgW p.length n0 p.length) s.1
def InvN (a b:List It) (p:List (List It)) (v:List Int) (s:Nat×Option Nat):Prop:=match s.2 with
 | none => ∀ n', n' < s.1 → ¬ FitN a b p n'
 | some n0=>n0<s.1∧FitN a b p n0 ∧ ∀ n', n' < s.1→FitN a b p n' → dgV v p.length n' p.length≤dgV v p.length n0 p.length∧(dgV v p.length n' p.length=dgV v p.length n0 p.length→n0≤n')
set_option maxHeartbeats 2000000 in
theorem refShare29 {a b:List It} {p:List (List It)} {v:List Int} {R:V→Prop} (hp:p.length≤1000) (hv:v.length≤1000) (bad8 : ¬ (Stk a∧Stk b)→R (.tup [nilS,iv 0,iv 8])) (bad:Stk a→Stk b→eAll p v≠0→R (.tup [nilS,iv 0,iv (eAll p v)]))
    (h:Stk a→Stk b→Gd p v → ∀ n0,n0<3 ^ p.length→FitN a b p n0→(∀ n', n' < 3 ^ p.length→FitN a b p n' → dgV v p.length n' p.length≤dgV v p.length n0 p.length∧(dgV v p.length n' p.length=dgV v p.length n0 p.length→n0≤n'))→R (.tup [.lst 1 (ul (dgW p.length n0 p.length)),iv (dgV v p.length n0 p.length),iv 0])):K0G Try.prog glX 29 [.lst 3 (itl a),.lst 3 (itl b),.lst 1 (pll p),.lst 1 (nl v)] R:=by
  refine K0_of_WY0 hmX hcRf 3000 Try.func29 (see (p:=K0G Try.prog glX 39 [V.lst 3 (itl a)] fun v_1=>onBool v_1 fun b_1=>ifB (!b_1) (R (V.tup [nilS,iv (0:Int),iv (8:Int)])) (K0G Try.prog glX 39 [V.lst 3 (itl b)] fun v_2=>onBool v_2 fun b_2=>ifB (!b_2) (R (V.tup [nilS,iv (0:Int),iv (8:Int)])) (K0G Try.prog glX 73 [V.lst 1 (pll p),V.lst 1 (nl v)] fun v_3=>onIntK IntKind.i64 v_3 fun n=>ifB (n != (0:Int)) (R (V.tup [nilS,iv (0:Int),iv n])) (La 0 [(0:Tmp),(1:Tmp),(2:Tmp),(3:Tmp),(12:Tmp),(13:Tmp)] (WY Try.prog cfR 2992 (Env.mk (Bs.mk 0 []) 0 none 97 29 0) (cdAt [1,1,1,1,0,1,0,0] (bodyOf Try.f29))) (Qblk 0 (Qthen (WY Try.prog cfR 2995 (Env.mk (Bs.mk 0 []) 0 none 97 29 0) (cdAt [1,1,1,1,1] (bodyOf Try.f29)) (QendX Try.prog Try.f29 fun v h=>R (frzW h v))) (QendX Try.prog Try.f29 fun v h=>R (frzW h v)))) (St.mk (mkT [(0,V.lst 3 (itl a)),(1,V.lst 3 (itl b)),(2,V.lst 1 (pll p)),(3,V.lst 1 (nl v)),(12,iv (1:Int)),(13,iv (0:Int))]) (Hp.mk [] 0 [])))))) (by kernel_rfl) ?_)
  refine stock39x (onBool_bv (ifB_mk (fun c=>bad8 (fun q=>dc_falseM (by simpa using c) q.1)) (fun c=>?_)))
  have ka:Stk a:=dc_trueM (by simpa using c)
  refine stock39x (onBool_bv (ifB_mk (fun c=>bad8 (fun q=>dc_falseM (by simpa using c) q.2)) (fun c=>?_)))
  have kb:Stk b:=dc_trueM (by simpa using c)
  refine planned73 hp hv (onIntK_iv (ifB_mk (fun c=>bad ka kb (by simpa using c)) (fun c=>?_)))
  have hG:Gd p v:=eAll_good (by simpa using c)
  have h:=h ka kb hG
  clear c bad bad8
  have n8:=hG.n8
  have ka30:=ka.1
  have kb30:=kb.1
  have hpl:=pll_length p
  obtain ⟨L,hL⟩ : ∃ L,L=p.length:=⟨_,rfl⟩
  refine La.of (σ:=Nat) (fun k=>sh29a a b p v ((3 ^ k:Nat):Int) k) (fun k=>k≤p.length) (fun k=>p.length - k) 0 (by kernel_rfl) (by omega) ?_
  rintro k g1 J hJ
  obtain ⟨N,hN0⟩ : ∃ N:Int,N=((3 ^ k:Nat):Int):=⟨_,rfl⟩
  rw [← hN0]
  refine see (p:=ifB (decide ((↑k:Int)<(↑(pll p).length:Int))) (J (St.mk (mkT [(0,V.lst 3 (itl a)),(1,V.lst 3 (itl b)),(2,V.lst 1 (pll p)),(3,V.lst 1 (nl v)),(12,iv (IntKind.i64.wrap (N * (3:Int)))),(13,iv (IntKind.i64.wrap ((↑k:Int)+(1:Int))))]) (Hp.mk [] 0 []))) (La 0 [(0:Tmp),(1:Tmp),(2:Tmp),(3:Tmp),(12:Tmp),(14:Tmp),(15:Tmp),(16:Tmp)] (WY Try.prog cfR 2989 (Env.mk (Bs.mk 0 []) 0 none 97 29 2) (cdAt [1,1,1,1,1,1,1,0,1,0,0] (bodyOf Try.f29))) (Qblk 2 (Qthen (WY Try.prog cfR 2992 (Env.mk (Bs.mk 0 []) 0 none 97 29 0) (cdAt [1,1,1,1,1,1,1,1] (bodyOf Try.f29)) (QendX Try.prog Try.f29 fun v h=>R (frzW h v))) (QendX Try.prog Try.f29 fun v h=>R (frzW h v)))) (St.mk (mkT [(0,V.lst 3 (itl a)),(1,V.lst 3 (itl b)),(2,V.lst 1 (pll p)),(3,V.lst 1 (nl v)),(12,iv N),(14,iv (-1:Int)),(15,nilS),(16,iv (0:Int))]) (Hp.mk [] 0 [])))) (by kernel_rfl) ?_
  refine ifB_mk (fun d=>?_) (fun d=>?_) <;> rw [hpl] at d
  · have hk:k<p.length:=by have:=of_decide_eq_true d; omega
    have h3:=pow3 (k:=k+1) (by omega)
    rw [Nat.pow_succ] at h3
    rw [wr1i hk (by omega),wr (by omega) (by omega)]
    have:=hJ (k+1) hk (by omega)
    refine hJ' ?_ this
    simp only [sh29a]
    rw [show ((3 ^ (k+1):Nat):Int)=N * 3 from by rw [hN0,Nat.pow_succ]; simp]
  have hk:k=p.length:=by have:=of_decide_eq_false d; omega
  have hN:N=((3 ^ p.length:Nat):Int):=by rw [hN0,hk]
  have h3:=pow3 (k:=p.length) (by omega)
  clear hJ d hk g1 hN0
  refine La.of (σ:=Nat×Option Nat) (fam29 a b p v N) (fun s=>s.1≤3 ^ p.length∧InvN a b p v s) (fun s=>3 ^ p.length - s.1) (0,none) (by kernel_rfl) ⟨by simp,fun n' hn=>by simp at hn⟩ ?_
  clear k
  rintro ⟨n,best⟩ ⟨g1,g2⟩ J hJ
  simp only at g1
  have keep:n<3 ^ p.length→(FitN a b p n → ∃ n0,best=some n0∧dgV v p.length n p.length≤dgV v p.length n0 p.length)→J (fam29 a b p v N (n+1,best)):=fun hn hq=>hJ (n+1,best) ⟨hn,by
    cases best with
    | none =>
      intro n' hn'
      rcases Nat.lt_succ_iff_lt_or_eq.1 hn' with q | q
      · exact g2 n' q
      · intro hf
        obtain ⟨n0,e,_⟩:=hq (q ▸ hf)
        cases e
    | some n0 =>
      obtain ⟨f1,f2,f3⟩:=g2
      simp only at f1 f2 f3
      refine ⟨Nat.lt_succ_of_lt f1,f2,fun n' hn' hf=>?_⟩
      rcases Nat.lt_succ_iff_lt_or_eq.1 hn' with q | q
      · exact f3 n' q hf
      · obtain ⟨n1,e,hle⟩:=hq (q ▸ hf)
        cases e
        exact ⟨q ▸ hle,fun _=>by omega⟩⟩ (by simp only; omega)
  have take:n<3 ^ p.length→FitN a b p n→(∀ n0,best=some n0→dgV v p.length n0 p.length<dgV v p.length n p.length)→J (fam29 a b p v N (n+1,some n)):=fun hn hf hq=>hJ (n+1,some n) ⟨hn,by
    refine ⟨Nat.lt_succ_self n,hf,fun n' hn' hf' => ?_⟩
    rcases Nat.lt_succ_iff_lt_or_eq.1 hn' with q | q
    · cases best with
      | none=>exact (g2 n' q hf').elim
      | some n0 =>
        have:=(g2.2.2 n' q hf').1
        have:=hq n0 rfl
        exact ⟨by omega,fun e=>by omega⟩
    · exact ⟨by rw [q]; exact Int.le_refl _,fun _=>by rw [q]; exact Nat.le_refl _⟩⟩ (by simp only; omega)
  have stepv : ∀ c,c<p.length→dg p.length n (p.length - 1 - c)=(n / 3 ^ c) % 3:=fun c hc=>by
    unfold dg
    rw [show p.length - 1 - (p.length - 1 - c)=c from by omega]
  have last:dgV v p.length n p.length=dgV v p.length n p.length:=rfl
  have vbd:=dgV_bd hG.vr p.length n
  cases best with
  | none =>
    obtain ⟨z,hz⟩ : ∃ z:Int,z = -1:=⟨_,rfl⟩
    refine see (p:=ifB (decide ((↑n:Int)<N)) (need ((pll p).length≤(pll p).length) (need (1 * (pll p).length≤140737488355328) (need ((pll p).length≤9223372036854775807) (La 0 [(0:Tmp),(1:Tmp),(2:Tmp),(3:Tmp),(12:Tmp),(14:Tmp),(15:Tmp),(16:Tmp),(17:Tmp),(18:Tmp),(19:Tmp),(20:Tmp)] (WY Try.prog cfR 2979 (Env.mk (Bs.mk 0 []) 0 none 97 29 4) (cdAt [1,1,1,1,1,1,1,0,1,0,0,1,0,0,1,1,1,0,1,0,0] (bodyOf Try.f29))) (Qblk 4 (Qthen (WY Try.prog cfR 2982 (Env.mk (Bs.mk 0 []) 0 none 97 29 3) (cdAt [1,1,1,1,1,1,1,0,1,0,0,1,0,0,1,1,1,1] (bodyOf Try.f29)) (Qblk 3 (Qthen (WY Try.prog cfR 2987 (Env.mk (Bs.mk 0 []) 0 none 97 29 2) (cdAt [1,1,1,1,1,1,1,0,1,0,0,1,1] (bodyOf Try.f29)) (Qla 0 [(0:Tmp),(1:Tmp),(2:Tmp),(3:Tmp),(12:Tmp),(14:Tmp),(15:Tmp),(16:Tmp)] J (Qblk 2 (Qthen (WY Try.prog cfR 2992 (Env.mk (Bs.mk 0 []) 0 none 97 29 0) (cdAt [1,1,1,1,1,1,1,1] (bodyOf Try.f29)) (QendX Try.prog Try.f29 fun v h=>R (frzW h v))) (QendX Try.prog Try.f29 fun v h=>R (frzW h v)))))) (Qla 0 [(0:Tmp),(1:Tmp),(2:Tmp),(3:Tmp),(12:Tmp),(14:Tmp),(15:Tmp),(16:Tmp)] J (Qblk 2 (Qthen (WY Try.prog cfR 2992 (Env.mk (Bs.mk 0 []) 0 none 97 29 0) (cdAt [1,1,1,1,1,1,1,1] (bodyOf Try.f29)) (QendX Try.prog Try.f29 fun v h=>R (frzW h v))) (QendX Try.prog Try.f29 fun v h=>R (frzW h v)))))))) (Qblk 3 (Qthen (WY Try.prog cfR 2987 (Env.mk (Bs.mk 0 []) 0 none 97 29 2) (cdAt [1,1,1,1,1,1,1,0,1,0,0,1,1] (bodyOf Try.f29)) (Qla 0 [(0:Tmp),(1:Tmp),(2:Tmp),(3:Tmp),(12:Tmp),(14:Tmp),(15:Tmp),(16:Tmp)] J (Qblk 2 (Qthen (WY Try.prog cfR 2992 (Env.mk (Bs.mk 0 []) 0 none 97 29 0) (cdAt [1,1,1,1,1,1,1,1] (bodyOf Try.f29)) (QendX Try.prog Try.f29 fun v h=>R (frzW h v))) (QendX Try.prog Try.f29 fun v h=>R (frzW h v)))))) (Qla 0 [(0:Tmp),(1:Tmp),(2:Tmp),(3:Tmp),(12:Tmp),(14:Tmp),(15:Tmp),(16:Tmp)] J (Qblk 2 (Qthen (WY Try.prog cfR 2992 (Env.mk (Bs.mk 0 []) 0 none 97 29 0) (cdAt [1,1,1,1,1,1,1,1] (bodyOf Try.f29)) (QendX Try.prog Try.f29 fun v h=>R (frzW h v))) (QendX Try.prog Try.f29 fun v h=>R (frzW h v))))))))) (St.mk (mkT [(0,V.lst 3 (itl a)),(1,V.lst 3 (itl b)),(2,V.lst 1 (pll p)),(3,V.lst 1 (nl v)),(12,iv N),(14,iv (-1:Int)),(15,nilS),(16,iv (↑n:Int)),(17,V.sl (Id.p 0) 0 (pll p).length),(18,iv (0:Int)),(19,iv (↑n:Int)),(20,iv (IntKind.i64.wrap ((↑(pll p).length:Int) - (1:Int))))]) (Hp.mk [(0,O.rows 1 true (List.replicate (pll p).length [V.raw (Value.int IntKind.u8 (0:Int))]))] 1 [])))))) (R (V.tup [nilS,iv (-1:Int),iv (0:Int)]))) (by kernel_rfl) ?_
    rcases hd:decide ((n:Int)<N) with _ | _
    · refine ifB_f rfl ?_
      have d:=hd
      have hn:n=3 ^ p.length:=by have:=of_decide_eq_false d; omega
      exfalso
      refine g2 0 (by simp only; rw [hn]; exact Nat.pow_pos (by omega)) ⟨fun i l hl hw x hx=>?_,fun i l hl hw x hx=>?_⟩
      · have hi:i<p.length:=(List.getElem?_eq_some_iff.1 hl).1
        rw [dgW_get hi] at hw
        simp [dg] at hw
      · have hi:i<p.length:=(List.getElem?_eq_some_iff.1 hl).1
        rw [dgW_get hi] at hw
        simp [dg] at hw
    refine ifB_t rfl ?_
    have d:=hd
    have hn:n<3 ^ p.length:=by have:=of_decide_eq_true d; omega
    rw [hpl]
    refine need_mk ⟨Nat.le_refl _,need_mk ⟨by omega,need_mk ⟨by omega,?_⟩⟩⟩
    rw [dgW_zero p.length n,← hL]
    refine La.of (σ:=Nat) (fun c=>sh29cn a b p v N (-1) n L (dgW L n c) (dgV v L n c) ((n / 3 ^ c:Nat):Int) ((L:Int) - 1 - (c:Int))) (fun c=>c≤L) (fun c=>L - c) 0 ?_ (by omega) ?_
    · rw [dgV_zero,Nat.pow_zero,Nat.div_one,wr (by omega) (by omega)]
      simp
      rfl
    rintro c f1 I hI
    obtain ⟨w,hw⟩ : ∃ w,w=dgW L n c:=⟨_,rfl⟩
    obtain ⟨y,hy⟩ : ∃ y,y=dgV v L n c:=⟨_,rfl⟩
    obtain ⟨x,hx⟩ : ∃ x:Int,x=((n / 3 ^ c:Nat):Int):=⟨_,rfl⟩
    obtain ⟨i,hi⟩ : ∃ i:Int,i=(L:Int) - 1 - (c:Int):=⟨_,rfl⟩
    have hyb:=vbd c
    rw [← hL] at hyb
    rw [← hy] at hyb
    have hwl:w.length=L:=by rw [hw,dgW_len]
    rw [← hw,← hy,← hx,← hi]
    refine see (p:=ifB (decide (i ≥ (0:Int))) (onNat i fun m=>need (m<L) (onSome (ul w)[0+m]? fun row=>guardB ((0+1).ble row.length) (onNat i fun m_1=>need (m_1<L) (onSome ((ul w).set (0+m) (V.raw (Value.int IntKind.u8 (IntKind.u8.wrap (x.tmod (3:Int))))::(List.append []) (List.drop 1 row)))[0+m_1]? fun row_1=>onSome row_1[0]? fun v_1=>onIntK IntKind.u8 v_1 fun n_1=>ifB (n_1 != (0:Int)) (onNat i fun m_2=>onSome (nl v)[m_2]? fun row_2=>onSome row_2[0]? fun v_2=>onIntK IntKind.i64 v_2 fun n_2=>I (St.mk (mkT [(0,V.lst 3 (itl a)),(1,V.lst 3 (itl b)),(2,V.lst 1 (pll p)),(3,V.lst 1 (nl v)),(12,iv N),(14,iv (-1:Int)),(15,nilS),(16,iv (↑n:Int)),(17,V.sl (Id.p 0) 0 L),(18,iv (IntKind.i64.wrap (y+n_2))),(19,iv (IntKind.i64.wrap (x.tdiv (3:Int)))),(20,iv (IntKind.i64.wrap (i - (1:Int))))]) (Hp.mk [(0,O.rows 1 true ((ul w).set (0+m) (V.raw (Value.int IntKind.u8 (IntKind.u8.wrap (x.tmod (3:Int))))::(List.append []) (List.drop 1 row))))] 1 []))) (I (St.mk (mkT [(0,V.lst 3 (itl a)),(1,V.lst 3 (itl b)),(2,V.lst 1 (pll p)),(3,V.lst 1 (nl v)),(12,iv N),(14,iv (-1:Int)),(15,nilS),(16,iv (↑n:Int)),(17,V.sl (Id.p 0) 0 L),(18,iv y),(19,iv (IntKind.i64.wrap (x.tdiv (3:Int)))),(20,iv (IntKind.i64.wrap (i - (1:Int))))]) (Hp.mk [(0,O.rows 1 true ((ul w).set (0+m) (V.raw (Value.int IntKind.u8 (IntKind.u8.wrap (x.tmod (3:Int))))::(List.append []) (List.drop 1 row))))] 1 []))))))) (ifB (decide (y > (-1:Int))) (K0G Try.prog glX 74 [V.lst 3 (itl a),V.lst 1 (pll p),V.lst 1 (sub (ul w) 0 L),V.raw (Value.int IntKind.u8 (1:Int))] fun v_1=>onBool v_1 fun b_1=>ifB b_1 (K0G Try.prog glX 74 [V.lst 3 (itl b),V.lst 1 (pll p),V.lst 1 (sub (ul w) 0 L),V.raw (Value.int IntKind.u8 (2:Int))] fun v_2=>onBool v_2 fun b_2=>ifB b_2 (J (St.mk (mkT [(0,V.lst 3 (itl a)),(1,V.lst 3 (itl b)),(2,V.lst 1 (pll p)),(3,V.lst 1 (nl v)),(12,iv N),(14,iv y),(15,V.lst 1 (sub (ul w) 0 L)),(16,iv (IntKind.i64.wrap ((↑n:Int)+(1:Int))))]) (Hp.mk [] 0 []))) (J (St.mk (mkT [(0,V.lst 3 (itl a)),(1,V.lst 3 (itl b)),(2,V.lst 1 (pll p)),(3,V.lst 1 (nl v)),(12,iv N),(14,iv (-1:Int)),(15,nilS),(16,iv (IntKind.i64.wrap ((↑n:Int)+(1:Int))))]) (Hp.mk [] 0 [])))) (J (St.mk (mkT [(0,V.lst 3 (itl a)),(1,V.lst 3 (itl b)),(2,V.lst 1 (pll p)),(3,V.lst 1 (nl v)),(12,iv N),(14,iv (-1:Int)),(15,nilS),(16,iv (IntKind.i64.wrap ((↑n:Int)+(1:Int))))]) (Hp.mk [] 0 [])))) (J (St.mk (mkT [(0,V.lst 3 (itl a)),(1,V.lst 3 (itl b)),(2,V.lst 1 (pll p)),(3,V.lst 1 (nl v)),(12,iv N),(14,iv (-1:Int)),(15,nilS),(16,iv (IntKind.i64.wrap ((↑n:Int)+(1:Int))))]) (Hp.mk [] 0 []))))) (by kernel_rfl) ?_
    refine ifB_mk (fun e=>?_) (fun e=>?_)
    · have hc:c<L:=by have:=of_decide_eq_true e; omega
      have hj:((L - 1 - c:Nat):Int)=i:=by omega
      have st:=hI (c+1) hc (by omega)
      have hdg:=stepv c (by omega)
      rw [← hL] at hdg
      have hd3:dg L n (L - 1 - c)<3:=Nat.mod_lt _ (by omega)
      have hxm:x.tmod 3=((dg L n (L - 1 - c):Nat):Int):=by rw [hx,tmod3,hdg]
      have hxd:IntKind.i64.wrap (x.tdiv 3)=((n / 3 ^ (c+1):Nat):Int):=by
        rw [hx,tdiv3,Nat.div_div_eq_div_mul,show 3 ^ c * 3=3 ^ (c+1) from (Nat.pow_succ ..).symm]
        have hle:n / 3 ^ (c+1)≤n:=Nat.div_le_self _ _
        generalize n / 3 ^ (c+1)=M at hle ⊢
        exact wr (by omega) (by omega)
      have hii:IntKind.i64.wrap (i - 1)=(L:Int) - 1 - ((c+1:Nat):Int):=by rw [wr (by omega) (by omega)]; omega
      have hrow:(ul w)[0+(L - 1 - c)]? = some [sv 0]:=by
        rw [Nat.zero_add,hw,ul_get (dgW_get (by omega)),if_neg (by omega)]
      have hset:(ul w).set (0+(L - 1 - c)) (V.raw (Value.int IntKind.u8 (IntKind.u8.wrap (x.tmod 3)))::(List.append []) (List.drop 1 [sv 0]))=ul (dgW L n (c+1)):=by
        rw [hxm,u8w _ (by omega),ul_setv w (L - 1 - c) _ (row:=[sv 0]) rfl,hw,dgW_set hc]
      refine onNat_mk (m:=L - 1 - c) hj.symm (need_mk ⟨by omega,onSome_mk hrow (guardB_mk rfl ?_)⟩)
      rw [hset,hxd,hii]
      refine onNat_mk (m:=L - 1 - c) hj.symm (need_mk ⟨by omega,?_⟩)
      rw [Nat.zero_add]
      refine ulel (dgW_get (by omega)) ?_
      rw [if_pos (by omega)]
      rw [dgV_succ hc,← hy] at st
      refine ifB_mk (fun q=>?_) (fun q=>?_)
      · have q : dg L n (L - 1 - c) ≠ 0 := by have : ((dg L n (L - 1 - c) : Nat) : Int) ≠ 0 := by simpa using q
                                              omega
        rw [if_pos q] at st
        refine onNat_mk (m:=L - 1 - c) hj.symm (iel (getVa (by rw [hG.vl]; omega)) ?_)
        have hvb:=getD_bd hG.vr (L - 1 - c)
        rw [wr (n:=y+_) (by omega) (by omega)]
        exact st
      · have q : dg L n (L - 1 - c) = 0 := by have : ((dg L n (L - 1 - c) : Nat) : Int) = 0 := by simpa using q
                                              omega
        rw [if_neg (by omega),Int.add_zero] at st
        exact st
    · have hc:c=L:=by have:=of_decide_eq_false e; omega
      rw [hc] at hw hy
      have hsub:sub (ul w) 0 L=ul w:=by rw [← (show (ul w).length=L from by rw [ul_length,hwl])]; exact sub_all _
      have hn1:IntKind.i64.wrap ((n:Int)+1)=((n+1:Nat):Int):=wr1i hn (by omega)
      rw [hsub,hn1]
      rw [← hL] at keep take hn
      rw [← hy] at keep take
      rw [hL] at hw
      refine ifB_mk (fun q=>?_) (fun q=>?_)
      · have q:=of_decide_eq_true q
        refine fits74 (m:=1) (by omega) n8 (by rw [hwl,hL]) hG.st (onBool_bv (ifB_mk (fun r=>?_) (fun r=>?_)))
        · refine fits74 (m:=2) (by omega) n8 (by rw [hwl,hL]) hG.st (onBool_bv (ifB_mk (fun t=>?_) (fun t=>?_)))
          · have:=take hn ⟨by rw [← hw]; exact dc_trueM r,by rw [← hw]; exact dc_trueM t⟩ (fun n1 e1=>by cases e1)
            refine hJ' ?_ this
            simp only [fam29,sh29bs]
            rw [← hw,← hL,← hy]
          · exact keep hn (fun hf=>(dc_falseM t (by rw [hw]; exact hf.2)).elim)
        · exact keep hn (fun hf=>(dc_falseM r (by rw [hw]; exact hf.1)).elim)
      · have q:=of_decide_eq_false q
        exact keep hn (fun hf=>by exfalso; omega)
  | some n0 =>
    obtain ⟨z,hz⟩ : ∃ z:Int,z=dgV v p.length n0 p.length:=⟨_,rfl⟩
    obtain ⟨u,hu⟩ : ∃ u,u=dgW p.length n0 p.length:=⟨_,rfl⟩
    have keep:n<3 ^ p.length→(FitN a b p n → ∃ n1,some n0=some n1∧dgV v p.length n p.length≤dgV v p.length n1 p.length)→J (sh29bs a b p v N z u (n+1)):=fun h1 h2=>by
      have:=keep h1 h2
      simp only [fam29] at this
      rw [hz,hu]
      exact this
    rw [show fam29 a b p v N (n,some n0)=sh29bs a b p v N z u n from by rw [hz,hu]; rfl]
    refine see (p:=ifB (decide ((↑n:Int)<N)) (need ((pll p).length≤(pll p).length) (need (1 * (pll p).length≤140737488355328) (need ((pll p).length≤9223372036854775807) (La 0 [(0:Tmp),(1:Tmp),(2:Tmp),(3:Tmp),(12:Tmp),(14:Tmp),(15:Tmp),(16:Tmp),(17:Tmp),(18:Tmp),(19:Tmp),(20:Tmp)] (WY Try.prog cfR 2979 (Env.mk (Bs.mk 0 []) 0 none 97 29 4) (cdAt [1,1,1,1,1,1,1,0,1,0,0,1,0,0,1,1,1,0,1,0,0] (bodyOf Try.f29))) (Qblk 4 (Qthen (WY Try.prog cfR 2982 (Env.mk (Bs.mk 0 []) 0 none 97 29 3) (cdAt [1,1,1,1,1,1,1,0,1,0,0,1,0,0,1,1,1,1] (bodyOf Try.f29)) (Qblk 3 (Qthen (WY Try.prog cfR 2987 (Env.mk (Bs.mk 0 []) 0 none 97 29 2) (cdAt [1,1,1,1,1,1,1,0,1,0,0,1,1] (bodyOf Try.f29)) (Qla 0 [(0:Tmp),(1:Tmp),(2:Tmp),(3:Tmp),(12:Tmp),(14:Tmp),(15:Tmp),(16:Tmp)] J (Qblk 2 (Qthen (WY Try.prog cfR 2992 (Env.mk (Bs.mk 0 []) 0 none 97 29 0) (cdAt [1,1,1,1,1,1,1,1] (bodyOf Try.f29)) (QendX Try.prog Try.f29 fun v h=>R (frzW h v))) (QendX Try.prog Try.f29 fun v h=>R (frzW h v)))))) (Qla 0 [(0:Tmp),(1:Tmp),(2:Tmp),(3:Tmp),(12:Tmp),(14:Tmp),(15:Tmp),(16:Tmp)] J (Qblk 2 (Qthen (WY Try.prog cfR 2992 (Env.mk (Bs.mk 0 []) 0 none 97 29 0) (cdAt [1,1,1,1,1,1,1,1] (bodyOf Try.f29)) (QendX Try.prog Try.f29 fun v h=>R (frzW h v))) (QendX Try.prog Try.f29 fun v h=>R (frzW h v)))))))) (Qblk 3 (Qthen (WY Try.prog cfR 2987 (Env.mk (Bs.mk 0 []) 0 none 97 29 2) (cdAt [1,1,1,1,1,1,1,0,1,0,0,1,1] (bodyOf Try.f29)) (Qla 0 [(0:Tmp),(1:Tmp),(2:Tmp),(3:Tmp),(12:Tmp),(14:Tmp),(15:Tmp),(16:Tmp)] J (Qblk 2 (Qthen (WY Try.prog cfR 2992 (Env.mk (Bs.mk 0 []) 0 none 97 29 0) (cdAt [1,1,1,1,1,1,1,1] (bodyOf Try.f29)) (QendX Try.prog Try.f29 fun v h=>R (frzW h v))) (QendX Try.prog Try.f29 fun v h=>R (frzW h v)))))) (Qla 0 [(0:Tmp),(1:Tmp),(2:Tmp),(3:Tmp),(12:Tmp),(14:Tmp),(15:Tmp),(16:Tmp)] J (Qblk 2 (Qthen (WY Try.prog cfR 2992 (Env.mk (Bs.mk 0 []) 0 none 97 29 0) (cdAt [1,1,1,1,1,1,1,1] (bodyOf Try.f29)) (QendX Try.prog Try.f29 fun v h=>R (frzW h v))) (QendX Try.prog Try.f29 fun v h=>R (frzW h v))))))))) (St.mk (mkT [(0,V.lst 3 (itl a)),(1,V.lst 3 (itl b)),(2,V.lst 1 (pll p)),(3,V.lst 1 (nl v)),(12,iv N),(14,iv z),(15,V.lst 1 (ul u)),(16,iv (↑n:Int)),(17,V.sl (Id.p 0) 0 (pll p).length),(18,iv (0:Int)),(19,iv (↑n:Int)),(20,iv (IntKind.i64.wrap ((↑(pll p).length:Int) - (1:Int))))]) (Hp.mk [(0,O.rows 1 true (List.replicate (pll p).length [V.raw (Value.int IntKind.u8 (0:Int))]))] 1 [])))))) (R (V.tup [V.lst 1 (ul u),iv z,iv (0:Int)]))) (by kernel_rfl) ?_
    rcases hd:decide ((n:Int)<N) with _ | _
    · refine ifB_f rfl ?_
      have d:=hd
      have hn:n=3 ^ p.length:=by have:=of_decide_eq_false d; omega
      rw [hu,hz]
      obtain ⟨f1,f2,f3⟩:=g2
      simp only at f1 f2 f3
      rw [hn] at f1 f3
      exact h n0 f1 f2 f3
    refine ifB_t rfl ?_
    have d:=hd
    have hn:n<3 ^ p.length:=by have:=of_decide_eq_true d; omega
    rw [hpl]
    refine need_mk ⟨Nat.le_refl _,need_mk ⟨by omega,need_mk ⟨by omega,?_⟩⟩⟩
    rw [dgW_zero p.length n,← hL]
    refine La.of (σ:=Nat) (fun c=>sh29cs a b p v N z u n L (dgW L n c) (dgV v L n c) ((n / 3 ^ c:Nat):Int) ((L:Int) - 1 - (c:Int))) (fun c=>c≤L) (fun c=>L - c) 0 ?_ (by omega) ?_
    · rw [dgV_zero,Nat.pow_zero,Nat.div_one,wr (by omega) (by omega)]
      simp
      rfl
    rintro c f1 I hI
    obtain ⟨w,hw⟩ : ∃ w,w=dgW L n c:=⟨_,rfl⟩
    obtain ⟨y,hy⟩ : ∃ y,y=dgV v L n c:=⟨_,rfl⟩
    obtain ⟨x,hx⟩ : ∃ x:Int,x=((n / 3 ^ c:Nat):Int):=⟨_,rfl⟩
    obtain ⟨i,hi⟩ : ∃ i:Int,i=(L:Int) - 1 - (c:Int):=⟨_,rfl⟩
    have hyb:=vbd c
    rw [← hL] at hyb
    rw [← hy] at hyb
    have hwl:w.length=L:=by rw [hw,dgW_len]
    rw [← hw,← hy,← hx,← hi]
    refine see (p:=ifB (decide (i ≥ (0:Int))) (onNat i fun m=>need (m<L) (onSome (ul w)[0+m]? fun row=>guardB ((0+1).ble row.length) (onNat i fun m_1=>need (m_1<L) (onSome ((ul w).set (0+m) (V.raw (Value.int IntKind.u8 (IntKind.u8.wrap (x.tmod (3:Int))))::(List.append []) (List.drop 1 row)))[0+m_1]? fun row_1=>onSome row_1[0]? fun v_1=>onIntK IntKind.u8 v_1 fun n_1=>ifB (n_1 != (0:Int)) (onNat i fun m_2=>onSome (nl v)[m_2]? fun row_2=>onSome row_2[0]? fun v_2=>onIntK IntKind.i64 v_2 fun n_2=>I (St.mk (mkT [(0,V.lst 3 (itl a)),(1,V.lst 3 (itl b)),(2,V.lst 1 (pll p)),(3,V.lst 1 (nl v)),(12,iv N),(14,iv z),(15,V.lst 1 (ul u)),(16,iv (↑n:Int)),(17,V.sl (Id.p 0) 0 L),(18,iv (IntKind.i64.wrap (y+n_2))),(19,iv (IntKind.i64.wrap (x.tdiv (3:Int)))),(20,iv (IntKind.i64.wrap (i - (1:Int))))]) (Hp.mk [(0,O.rows 1 true ((ul w).set (0+m) (V.raw (Value.int IntKind.u8 (IntKind.u8.wrap (x.tmod (3:Int))))::(List.append []) (List.drop 1 row))))] 1 []))) (I (St.mk (mkT [(0,V.lst 3 (itl a)),(1,V.lst 3 (itl b)),(2,V.lst 1 (pll p)),(3,V.lst 1 (nl v)),(12,iv N),(14,iv z),(15,V.lst 1 (ul u)),(16,iv (↑n:Int)),(17,V.sl (Id.p 0) 0 L),(18,iv y),(19,iv (IntKind.i64.wrap (x.tdiv (3:Int)))),(20,iv (IntKind.i64.wrap (i - (1:Int))))]) (Hp.mk [(0,O.rows 1 true ((ul w).set (0+m) (V.raw (Value.int IntKind.u8 (IntKind.u8.wrap (x.tmod (3:Int))))::(List.append []) (List.drop 1 row))))] 1 []))))))) (ifB (decide (y > z)) (K0G Try.prog glX 74 [V.lst 3 (itl a),V.lst 1 (pll p),V.lst 1 (sub (ul w) 0 L),V.raw (Value.int IntKind.u8 (1:Int))] fun v_1=>onBool v_1 fun b_1=>ifB b_1 (K0G Try.prog glX 74 [V.lst 3 (itl b),V.lst 1 (pll p),V.lst 1 (sub (ul w) 0 L),V.raw (Value.int IntKind.u8 (2:Int))] fun v_2=>onBool v_2 fun b_2=>ifB b_2 (J (St.mk (mkT [(0,V.lst 3 (itl a)),(1,V.lst 3 (itl b)),(2,V.lst 1 (pll p)),(3,V.lst 1 (nl v)),(12,iv N),(14,iv y),(15,V.lst 1 (sub (ul w) 0 L)),(16,iv (IntKind.i64.wrap ((↑n:Int)+(1:Int))))]) (Hp.mk [] 0 []))) (J (St.mk (mkT [(0,V.lst 3 (itl a)),(1,V.lst 3 (itl b)),(2,V.lst 1 (pll p)),(3,V.lst 1 (nl v)),(12,iv N),(14,iv z),(15,V.lst 1 (ul u)),(16,iv (IntKind.i64.wrap ((↑n:Int)+(1:Int))))]) (Hp.mk [] 0 [])))) (J (St.mk (mkT [(0,V.lst 3 (itl a)),(1,V.lst 3 (itl b)),(2,V.lst 1 (pll p)),(3,V.lst 1 (nl v)),(12,iv N),(14,iv z),(15,V.lst 1 (ul u)),(16,iv (IntKind.i64.wrap ((↑n:Int)+(1:Int))))]) (Hp.mk [] 0 [])))) (J (St.mk (mkT [(0,V.lst 3 (itl a)),(1,V.lst 3 (itl b)),(2,V.lst 1 (pll p)),(3,V.lst 1 (nl v)),(12,iv N),(14,iv z),(15,V.lst 1 (ul u)),(16,iv (IntKind.i64.wrap ((↑n:Int)+(1:Int))))]) (Hp.mk [] 0 []))))) (by kernel_rfl) ?_
    refine ifB_mk (fun e=>?_) (fun e=>?_)
    · have hc:c<L:=by have:=of_decide_eq_true e; omega
      have hj:((L - 1 - c:Nat):Int)=i:=by omega
      have st:=hI (c+1) hc (by omega)
      have hdg:=stepv c (by omega)
      rw [← hL] at hdg
      have hd3:dg L n (L - 1 - c)<3:=Nat.mod_lt _ (by omega)
      have hxm:x.tmod 3=((dg L n (L - 1 - c):Nat):Int):=by rw [hx,tmod3,hdg]
      have hxd:IntKind.i64.wrap (x.tdiv 3)=((n / 3 ^ (c+1):Nat):Int):=by
        rw [hx,tdiv3,Nat.div_div_eq_div_mul,show 3 ^ c * 3=3 ^ (c+1) from (Nat.pow_succ ..).symm]
        have hle:n / 3 ^ (c+1)≤n:=Nat.div_le_self _ _
        generalize n / 3 ^ (c+1)=M at hle ⊢
        exact wr (by omega) (by omega)
      have hii:IntKind.i64.wrap (i - 1)=(L:Int) - 1 - ((c+1:Nat):Int):=by rw [wr (by omega) (by omega)]; omega
      have hrow:(ul w)[0+(L - 1 - c)]? = some [sv 0]:=by
        rw [Nat.zero_add,hw,ul_get (dgW_get (by omega)),if_neg (by omega)]
      have hset:(ul w).set (0+(L - 1 - c)) (V.raw (Value.int IntKind.u8 (IntKind.u8.wrap (x.tmod 3)))::(List.append []) (List.drop 1 [sv 0]))=ul (dgW L n (c+1)):=by
        rw [hxm,u8w _ (by omega),ul_setv w (L - 1 - c) _ (row:=[sv 0]) rfl,hw,dgW_set hc]
      refine onNat_mk (m:=L - 1 - c) hj.symm (need_mk ⟨by omega,onSome_mk hrow (guardB_mk rfl ?_)⟩)
      rw [hset,hxd,hii]
      refine onNat_mk (m:=L - 1 - c) hj.symm (need_mk ⟨by omega,?_⟩)
      rw [Nat.zero_add]
      refine ulel (dgW_get (by omega)) ?_
      rw [if_pos (by omega)]
      rw [dgV_succ hc,← hy] at st
      refine ifB_mk (fun q=>?_) (fun q=>?_)
      · have q : dg L n (L - 1 - c) ≠ 0 := by have : ((dg L n (L - 1 - c) : Nat) : Int) ≠ 0 := by simpa using q
                                              omega
        rw [if_pos q] at st
        refine onNat_mk (m:=L - 1 - c) hj.symm (iel (getVa (by rw [hG.vl]; omega)) ?_)
        have hvb:=getD_bd hG.vr (L - 1 - c)
        rw [wr (n:=y+_) (by omega) (by omega)]
        exact st
      · have q : dg L n (L - 1 - c) = 0 := by have : ((dg L n (L - 1 - c) : Nat) : Int) = 0 := by simpa using q
                                              omega
        rw [if_neg (by omega),Int.add_zero] at st
        exact st
    · have hc:c=L:=by have:=of_decide_eq_false e; omega
      rw [hc] at hw hy
      have hsub:sub (ul w) 0 L=ul w:=by rw [← (show (ul w).length=L from by rw [ul_length,hwl])]; exact sub_all _
      have hn1:IntKind.i64.wrap ((n:Int)+1)=((n+1:Nat):Int):=wr1i hn (by omega)
      rw [hsub,hn1]
      rw [← hL] at keep take hn
      rw [← hy] at keep take
      rw [hL] at hw
      refine ifB_mk (fun q=>?_) (fun q=>?_)
      · have q:=of_decide_eq_true q
        refine fits74 (m:=1) (by omega) n8 (by rw [hwl,hL]) hG.st (onBool_bv (ifB_mk (fun r=>?_) (fun r=>?_)))
        · refine fits74 (m:=2) (by omega) n8 (by rw [hwl,hL]) hG.st (onBool_bv (ifB_mk (fun t=>?_) (fun t=>?_)))
          · have:=take hn ⟨by rw [← hw]; exact dc_trueM r,by rw [← hw]; exact dc_trueM t⟩ (fun n1 e1=>by cases e1; rw [hL]; omega)
            refine hJ' ?_ this
            simp only [fam29,sh29bs]
            rw [← hw,← hL,← hy]
          · exact keep hn (fun hf=>(dc_falseM t (by rw [hw]; exact hf.2)).elim)
        · exact keep hn (fun hf=>(dc_falseM r (by rw [hw]; exact hf.1)).elim)
      · have q:=of_decide_eq_false q
        exact keep hn (fun hf=>⟨n0,rfl,by rw [hL]; omega⟩)
set_option maxRecDepth 100000
noncomputable def shB0 (a:List It) (p:List (List It)) (v:List Int) (n:Nat):St:=⟨mkT [(0,V.lst 3 (itl a)),(1,V.lst 1 (pll p)),(2,V.lst 1 (nl v)),(6,V.ptr (Id.p 0) 0 0),(9,V.ptr (Id.p 1) 0 0),(10,iv (n:Int))],⟨[(0,O.rows 3 false [[nilS,iv (0:Int),nilS]]),(1,O.rows 3 false [[nilS,iv (-1:Int),nilS]])],2,[]⟩⟩
noncomputable def shB1 (a:List It) (p:List (List It)) (v:List Int) (z:Int) (d:Nat) (l:List It) (n:Nat):St:=⟨mkT [(0,V.lst 3 (itl a)),(1,V.lst 1 (pll p)),(2,V.lst 1 (nl v)),(6,V.ptr (Id.p 0) 0 0),(9,V.ptr (Id.p 1) 0 0),(10,iv (n:Int))],⟨[(0,O.rows 3 false [[nilS,iv (0:Int),nilS]]),(1,O.rows 3 false [[nilS,iv z,V.lst d (itl l)]])],2,[]⟩⟩
noncomputable def shB2 (a:List It) (p:List (List It)) (v:List Int) (q:List Nat) (z:Int) (d:Nat) (l:List It) (n:Nat):St:=⟨mkT [(0,V.lst 3 (itl a)),(1,V.lst 1 (pll p)),(2,V.lst 1 (nl v)),(6,V.ptr (Id.p 0) 0 0),(9,V.ptr (Id.p 1) 0 0),(10,iv (n:Int))],⟨[(0,O.rows 3 false [[nilS,iv (0:Int),nilS]]),(1,O.rows 3 false [[V.sl (Id.p 2) 0 q.length,iv z,V.lst d (itl l)]]),(2,O.rows 1 true (nn q))],3,[]⟩⟩
noncomputable def shC0n (a:List It) (p:List (List It)) (v:List Int) (n L:Nat) (w:List Nat) (y:Int) (i:Nat):St:=⟨mkT [(0,V.lst 3 (itl a)),(1,V.lst 1 (pll p)),(2,V.lst 1 (nl v)),(6,V.ptr (Id.p 0) 0 0),(9,V.ptr (Id.p 1) 0 0),(10,iv (n:Int)),(11,V.sl (Id.p 2) 0 L),(12,V.ptr (Id.p 3) 0 0),(13,iv (i:Int))],⟨[(0,O.rows 3 false [[nilS,iv (0:Int),nilS]]),(1,O.rows 3 false [[nilS,iv (-1:Int),nilS]]),(2,O.rows 1 true (ul w)),(3,O.rows 3 false [[nilS,iv y,nilS]])],4,[]⟩⟩
noncomputable def shC0s (a:List It) (p:List (List It)) (v:List Int) (n L:Nat) (w:List Nat) (y:Int) (r:List Nat) (i:Nat):St:=⟨mkT [(0,V.lst 3 (itl a)),(1,V.lst 1 (pll p)),(2,V.lst 1 (nl v)),(6,V.ptr (Id.p 0) 0 0),(9,V.ptr (Id.p 1) 0 0),(10,iv (n:Int)),(11,V.sl (Id.p 2) 0 L),(12,V.ptr (Id.p 3) 0 0),(13,iv (i:Int))],⟨[(0,O.rows 3 false [[nilS,iv (0:Int),nilS]]),(1,O.rows 3 false [[nilS,iv (-1:Int),nilS]]),(2,O.rows 1 true (ul w)),(3,O.rows 3 false [[V.sl (Id.p 4) 0 r.length,iv y,nilS]]),(4,O.rows 1 true (nn r))],5,[]⟩⟩
noncomputable def shC1n (a:List It) (p:List (List It)) (v:List Int) (z:Int) (d:Nat) (l:List It) (n L:Nat) (w:List Nat) (y:Int) (i:Nat):St:=⟨mkT [(0,V.lst 3 (itl a)),(1,V.lst 1 (pll p)),(2,V.lst 1 (nl v)),(6,V.ptr (Id.p 0) 0 0),(9,V.ptr (Id.p 1) 0 0),(10,iv (n:Int)),(11,V.sl (Id.p 2) 0 L),(12,V.ptr (Id.p 3) 0 0),(13,iv (i:Int))],⟨[(0,O.rows 3 false [[nilS,iv (0:Int),nilS]]),(1,O.rows 3 false [[nilS,iv z,V.lst d (itl l)]]),(2,O.rows 1 true (ul w)),(3,O.rows 3 false [[nilS,iv y,nilS]])],4,[]⟩⟩
noncomputable def shC1s (a:List It) (p:List (List It)) (v:List Int) (z:Int) (d:Nat) (l:List It) (n L:Nat) (w:List Nat) (y:Int) (r:List Nat) (i:Nat):St:=⟨mkT [(0,V.lst 3 (itl a)),(1,V.lst 1 (pll p)),(2,V.lst 1 (nl v)),(6,V.ptr (Id.p 0) 0 0),(9,V.ptr (Id.p 1) 0 0),(10,iv (n:Int)),(11,V.sl (Id.p 2) 0 L),(12,V.ptr (Id.p 3) 0 0),(13,iv (i:Int))],⟨[(0,O.rows 3 false [[nilS,iv (0:Int),nilS]]),(1,O.rows 3 false [[nilS,iv z,V.lst d (itl l)]]),(2,O.rows 1 true (ul w)),(3,O.rows 3 false [[V.sl (Id.p 4) 0 r.length,iv y,nilS]]),(4,O.rows 1 true (nn r))],5,[]⟩⟩
noncomputable def shC2n (a:List It) (p:List (List It)) (v:List Int) (q:List Nat) (z:Int) (d:Nat) (l:List It) (n L:Nat) (w:List Nat) (y:Int) (i:Nat):St:=⟨mkT [(0,V.lst 3 (itl a)),(1,V.lst 1 (pll p)),(2,V.lst 1 (nl v)),(6,V.ptr (Id.p 0) 0 0),(9,V.ptr (Id.p 1) 0 0),(10,iv (n:Int)),(11,V.sl (Id.p 3) 0 L),(12,V.ptr (Id.p 4) 0 0),(13,iv (i:Int))],⟨[(0,O.rows 3 false [[nilS,iv (0:Int),nilS]]),(1,O.rows 3 false [[V.sl (Id.p 2) 0 q.length,iv z,V.lst d (itl l)]]),(2,O.rows 1 true (nn q)),(3,O.rows 1 true (ul w)),(4,O.rows 3 false [[nilS,iv y,nilS]])],5,[]⟩⟩
noncomputable def shC2s (a:List It) (p:List (List It)) (v:List Int) (q:List Nat) (z:Int) (d:Nat) (l:List It) (n L:Nat) (w:List Nat) (y:Int) (r:List Nat) (i:Nat):St:=⟨mkT [(0,V.lst 3 (itl a)),(1,V.lst 1 (pll p)),(2,V.lst 1 (nl v)),(6,V.ptr (Id.p 0) 0 0),(9,V.ptr (Id.p 1) 0 0),(10,iv (n:Int)),(11,V.sl (Id.p 3) 0 L),(12,V.ptr (Id.p 4) 0 0),(13,iv (i:Int))],⟨[(0,O.rows 3 false [[nilS,iv (0:Int),nilS]]),(1,O.rows 3 false [[V.sl (Id.p 2) 0 q.length,iv z,V.lst d (itl l)]]),(2,O.rows 1 true (nn q)),(3,O.rows 1 true (ul w)),(4,O.rows 3 false [[V.sl (Id.p 5) 0 r.length,iv y,nilS]]),(5,O.rows 1 true (nn r))],6,[]⟩⟩
end Go.Proofs.Ytmddjopahcbefaa
