/- A part of the proof. -/
import Derived.ProofKit
import Derived.Deep.Slices
import Derived.Carry
import Derived.Test.YtmddjopahcbefaaXW6G7
import Derived.Test.YtmddjopahcbefaaXW6G13
namespace Go.Proofs.Ytmddjopahcbefaa
open Go Go.Proofs.Ytmddjopahcbefaa.Clean
set_option linter.unusedVariables false
set_option linter.unusedSimpArgs false
set_option maxRecDepth 10000
theorem hcPl:cfP.ok Try.prog:=cfgM_ok
theorem byteL_ul : ∀ (w:List Nat),byteL (ul w)=some (List.map (fun n:Nat=>(n:Int)) w)
 | []=>rfl
 | n::w=>by
  have:=byteL_ul w
  simp only [ul,List.map_cons,byteL] at this ⊢
  rw [this]
  rfl
theorem nl_lengthP (v:List Int):(nl v).length=v.length:=by simp [nl]
theorem same23 {s t:Nat} {q:List Nat} {R:V→Prop} (hs:s=1∨q=[]) (ht:t=1∨q=[]) (hq:q.length≤1000) (h:R (bv true)):K0G Try.prog glX 23 [.lst s (nn q),.lst t (nn q)] R:=by
 refine K0_of_WY0 hmX hcPl 3000 Try.func23 (see (p:=ifB ((↑(nn q).length:Int) != (↑(nn q).length:Int)) (R (bv false)) (La 0 [(0:Tmp),(1:Tmp),(5:Tmp)] (WY Try.prog cfP 2994 (Env.mk (Bs.mk 0 []) 0 none 26 23 0) (cdAt [1,1,0,1,0,0] (bodyOf Try.f23))) (Qblk 0 (Qthen (WY Try.prog cfP 2997 (Env.mk (Bs.mk 0 []) 0 none 26 23 0) (cdAt [1,1,1] (bodyOf Try.f23)) (QendX Try.prog Try.f23 fun v h=>R (frzW h v))) (QendX Try.prog Try.f23 fun v h=>R (frzW h v)))) (St.mk (mkT [(0,V.lst s (nn q)),(1,V.lst t (nn q)),(5,iv (0:Int))]) (Hp.mk [] 0 [])))) (by kernel_rfl) ?_)
 rw [nn_length]
 refine ifB_f (by simp) ?_
 refine La.of (σ:=Nat) (fun k=>sh23 s t q k) (fun k=>k≤q.length) (fun k=>q.length - k) 0 (by kernel_rfl) (by simp) ?_
 intro k g1 J hJ
 refine see (p:=ifB (decide ((↑k:Int)<(↑(nn q).length:Int))) (need (s=1) (onSome (nn q)[k]? fun row=>onSome row[0]? fun v=>onIntK IntKind.i64 v fun n=>need (t=1) (onSome (nn q)[k]? fun row=>onSome row[0]? fun v=>onIntK IntKind.i64 v fun n_1=>ifB (n != n_1) (R (bv false)) (J (St.mk (mkT [(0,V.lst s (nn q)),(1,V.lst t (nn q)),(5,iv (IntKind.i64.wrap ((↑k:Int)+(1:Int))))]) (Hp.mk [] 0 [])))))) (R (bv true))) (by kernel_rfl) ?_
 rw [nn_length]
 refine ifB_mk (fun hb=>?_) (fun hb=>h)
 have hlt:k<q.length:=by have:=of_decide_eq_true hb; omega
 have e1:q[k]? = some (q.getD k 0):=by simp [List.getD,hlt]
 have hs1:s=1:=hs.resolve_right (by rintro rfl; simp at hlt)
 have ht1:t=1:=ht.resolve_right (by rintro rfl; simp at hlt)
 rw [wr1i hlt (by omega)]
 refine need_mk ⟨hs1,nel e1 (need_mk ⟨ht1,nel e1 (ifB_f (by simp) ?_)⟩)⟩
 exact hJ (k+1) (by omega) (by omega)
theorem lots28P {p:List (List It)} {R:V→Prop} (hp:p.length≤maxLen) (h : ∀ b,R (bv b)):K0G Try.prog glX 8 [.lst 1 (pll p)] R:=by
 have hp:(p.length:Int)≤9223372036854775807:=by unfold maxLen at hp; omega
 refine K0_of_WY0 hmX hcM 3000 Try.func8 (see (p:=La 0 [(5:Tmp),(6:Tmp),(7:Tmp)] (WY Try.prog cfM 2995 (Env.mk (Bs.mk 0 []) 0 none 14 8 0) (cdAt [1,0,1,0,0] (bodyOf Try.f8))) (Qblk 0 (Qthen (WY Try.prog cfM 2998 (Env.mk (Bs.mk 0 []) 0 none 14 8 0) (cdAt [1,1] (bodyOf Try.f8)) (QendX Try.prog Try.f8 fun v h=>R (frzW h v))) (QendX Try.prog Try.f8 fun v h=>R (frzW h v)))) (St.mk (mkT [(5,V.lst 1 (pll p)),(6,iv (↑(pll p).length:Int)),(7,iv (0:Int))]) (Hp.mk [] 0 []))) (by kernel_rfl) ?_)
 refine La.of (σ:=Nat) (fun k=>sh28 p k) (fun k=>k≤p.length) (fun k=>p.length - k) 0 (by kernel_rfl) (by simp) ?_
 intro k g1 J hJ
 refine see (p:=ifB (decide ((↑k:Int)<(↑(pll p).length:Int))) (onSome (pll p)[k]? fun row=>onSome row[0]? fun v=>onLst v fun s es=>K0G Try.prog glX 35 [V.lst s es] fun v=>onBool v fun b=>ifB b (R (bv true)) (J (St.mk (mkT [(5,V.lst 1 (pll p)),(6,iv (↑(pll p).length:Int)),(7,iv (IntKind.i64.wrap ((↑k:Int)+(1:Int))))]) (Hp.mk [] 0 [])))) (R (bv false))) (by kernel_rfl) ?_
 simp only [pll_length]
 refine ifB_mk (fun hb=>?_) (fun hb=>h _)
 have hlt:k<p.length:=by have:=of_decide_eq_true hb; omega
 obtain ⟨l,hl⟩ : ∃ x,p[k]? = some x:=⟨p[k],by simp [hlt]⟩
 rw [wr1i hlt (by omega)]
 refine pll_get hl (lots78 (fun b=>onBool_bv (ifB_mk (fun _=>h _) (fun _=>hJ' ?_ (hJ (k+1) (by omega) (by omega))))))
 simp [sh28,pll_length]
theorem law6 {a b:List It} {p:List (List It)} {v:List Int} {R:V→Prop} (hp:p.length≤maxLen) (h:R (bv true)):K0G Try.prog glX 6 [.lst 3 (itl a),.lst 3 (itl b),.lst 1 (pll p),.lst 1 (nl v)] R:=by
 refine K0_of_WY0 hmX hcPl 3000 Try.func6 (see (p:=K0G Try.prog glX 8 [V.lst 1 [[V.lst 3 (itl a)],[V.lst 3 (itl b)]]] fun v_1=>onBool v_1 fun b_1=>ifB b_1 (R (bv true)) (K0G Try.prog glX 8 [V.lst 1 (pll p)] fun v_2=>onBool v_2 fun b_2=>ifB b_2 (R (bv true)) (ifB (decide ((↑(pll p).length:Int) > (12:Int))) (R (bv true)) (ifB (decide ((↑(pll p).length:Int) > (6:Int))) (ifB (decide ((↑(pll p).length:Int)≤(8:Int))) (R (bv true)) (ifB (decide ((↑(nl v).length:Int) > (20:Int))) (R (bv true)) (K0G Try.prog glX 26 [V.lst 3 (itl a),V.lst 1 (pll p),V.lst 1 (nl v)] fun v_3=>onTup v_3 fun vs=>onCons vs fun u r=>onAgg u fun cs=>onCons cs fun u r_1=>onLst u fun s es=>onCons r_1 fun u r_2=>onIntK IntKind.i64 u fun n=>onCons r_2 fun u r_3=>onLst u fun s_1 es_1=>onNil r_3 (onCons r fun u r=>onIntK IntKind.i64 u fun n_1=>onNil r (K0G Try.prog glX 27 [V.lst 3 (itl a),V.lst 1 (pll p),V.lst 1 (nl v)] fun v_4=>onTup v_4 fun vs=>onCons vs fun u r=>onAgg u fun cs=>onCons cs fun u r_4=>onLst u fun s_2 es_2=>onCons r_4 fun u r_5=>onIntK IntKind.i64 u fun n_2=>onCons r_5 fun u r_6=>onLst u fun s_3 es_3=>onNil r_6 (onCons r fun u r=>onIntK IntKind.i64 u fun n_3=>onNil r (K0G Try.prog glX 28 [V.lst 3 (itl a),V.lst 3 (itl b),V.lst 1 (pll p),V.lst 1 (nl v)] fun v_5=>onTup v_5 fun vs=>onCons vs fun u r=>onLst u fun s_4 es_4=>onCons r fun u r=>onIntK IntKind.i64 u fun n_4=>onCons r fun u r=>onIntK IntKind.i64 u fun n_5=>onNil r (K0G Try.prog glX 29 [V.lst 3 (itl a),V.lst 3 (itl b),V.lst 1 (pll p),V.lst 1 (nl v)] fun v=>onTup v fun vs=>onCons vs fun u r=>onLst u fun s_5 es_5=>onCons r fun u r=>onIntK IntKind.i64 u fun n_6=>onCons r fun u r=>onIntK IntKind.i64 u fun n_7=>onNil r (K0G Try.prog glX 23 [V.lst s es,V.lst s_2 es_2] fun v=>onBool v fun b=>ifB b (ifB (n==n_2) (K0G Try.prog glX 15 [V.lst s_1 es_1,V.lst s_3 es_3] fun v=>onBool v fun b=>ifB b (ifB (n_1==n_3) (onSome (byteL es_4) fun l=>onSome (byteL es_5) fun l_1=>ifB ((List.map (fun n=>UInt8.ofNat n.toNat) l)==(List.map (fun n=>UInt8.ofNat n.toNat) l_1)) (ifB (n_4==n_6) (R (bv (n_5==n_7))) (R (bv false))) (R (bv false))) (R (bv false))) (R (bv false))) (R (bv false))) (R (bv false))))))))))) (ifB (decide ((↑(nl v).length:Int) > (20:Int))) (R (bv true)) (K0G Try.prog glX 26 [V.lst 3 (itl a),V.lst 1 (pll p),V.lst 1 (nl v)] fun v_3=>onTup v_3 fun vs=>onCons vs fun u r=>onAgg u fun cs=>onCons cs fun u r_1=>onLst u fun s es=>onCons r_1 fun u r_2=>onIntK IntKind.i64 u fun n=>onCons r_2 fun u r_3=>onLst u fun s_1 es_1=>onNil r_3 (onCons r fun u r=>onIntK IntKind.i64 u fun n_1=>onNil r (K0G Try.prog glX 27 [V.lst 3 (itl a),V.lst 1 (pll p),V.lst 1 (nl v)] fun v_4=>onTup v_4 fun vs=>onCons vs fun u r=>onAgg u fun cs=>onCons cs fun u r_4=>onLst u fun s_2 es_2=>onCons r_4 fun u r_5=>onIntK IntKind.i64 u fun n_2=>onCons r_5 fun u r_6=>onLst u fun s_3 es_3=>onNil r_6 (onCons r fun u r=>onIntK IntKind.i64 u fun n_3=>onNil r (K0G Try.prog glX 28 [V.lst 3 (itl a),V.lst 3 (itl b),V.lst 1 (pll p),V.lst 1 (nl v)] fun v_5=>onTup v_5 fun vs=>onCons vs fun u r=>onLst u fun s_4 es_4=>onCons r fun u r=>onIntK IntKind.i64 u fun n_4=>onCons r fun u r=>onIntK IntKind.i64 u fun n_5=>onNil r (K0G Try.prog glX 29 [V.lst 3 (itl a),V.lst 3 (itl b),V.lst 1 (pll p),V.lst 1 (nl v)] fun v=>onTup v fun vs=>onCons vs fun u r=>onLst u fun s_5 es_5=>onCons r fun u r=>onIntK IntKind.i64 u fun n_6=>onCons r fun u r=>onIntK IntKind.i64 u fun n_7=>onNil r (K0G Try.prog glX 23 [V.lst s es,V.lst s_2 es_2] fun v=>onBool v fun b=>ifB b (ifB (n==n_2) (K0G Try.prog glX 15 [V.lst s_1 es_1,V.lst s_3 es_3] fun v=>onBool v fun b=>ifB b (ifB (n_1==n_3) (onSome (byteL es_4) fun l=>onSome (byteL es_5) fun l_1=>ifB ((List.map (fun n=>UInt8.ofNat n.toNat) l)==(List.map (fun n=>UInt8.ofNat n.toNat) l_1)) (ifB (n_4==n_6) (R (bv (n_5==n_7))) (R (bv false))) (R (bv false))) (R (bv false))) (R (bv false))) (R (bv false))) (R (bv false)))))))))))))) (by kernel_rfl) ?_)
 have tail:p.length≤12→v.length≤20→(K0G Try.prog glX 26 [V.lst 3 (itl a),V.lst 1 (pll p),V.lst 1 (nl v)] fun v_3=>onTup v_3 fun vs=>onCons vs fun u r=>onAgg u fun cs=>onCons cs fun u r_1=>onLst u fun s es=>onCons r_1 fun u r_2=>onIntK IntKind.i64 u fun n=>onCons r_2 fun u r_3=>onLst u fun s_1 es_1=>onNil r_3 (onCons r fun u r=>onIntK IntKind.i64 u fun n_1=>onNil r (K0G Try.prog glX 27 [V.lst 3 (itl a),V.lst 1 (pll p),V.lst 1 (nl v)] fun v_4=>onTup v_4 fun vs=>onCons vs fun u r=>onAgg u fun cs=>onCons cs fun u r_4=>onLst u fun s_2 es_2=>onCons r_4 fun u r_5=>onIntK IntKind.i64 u fun n_2=>onCons r_5 fun u r_6=>onLst u fun s_3 es_3=>onNil r_6 (onCons r fun u r=>onIntK IntKind.i64 u fun n_3=>onNil r (K0G Try.prog glX 28 [V.lst 3 (itl a),V.lst 3 (itl b),V.lst 1 (pll p),V.lst 1 (nl v)] fun v_5=>onTup v_5 fun vs=>onCons vs fun u r=>onLst u fun s_4 es_4=>onCons r fun u r=>onIntK IntKind.i64 u fun n_4=>onCons r fun u r=>onIntK IntKind.i64 u fun n_5=>onNil r (K0G Try.prog glX 29 [V.lst 3 (itl a),V.lst 3 (itl b),V.lst 1 (pll p),V.lst 1 (nl v)] fun v=>onTup v fun vs=>onCons vs fun u r=>onLst u fun s_5 es_5=>onCons r fun u r=>onIntK IntKind.i64 u fun n_6=>onCons r fun u r=>onIntK IntKind.i64 u fun n_7=>onNil r (K0G Try.prog glX 23 [V.lst s es,V.lst s_2 es_2] fun v=>onBool v fun b=>ifB b (ifB (n==n_2) (K0G Try.prog glX 15 [V.lst s_1 es_1,V.lst s_3 es_3] fun v=>onBool v fun b=>ifB b (ifB (n_1==n_3) (onSome (byteL es_4) fun l=>onSome (byteL es_5) fun l_1=>ifB ((List.map (fun n=>UInt8.ofNat n.toNat) l)==(List.map (fun n=>UInt8.ofNat n.toNat) l_1)) (ifB (n_4==n_6) (R (bv (n_5==n_7))) (R (bv false))) (R (bv false))) (R (bv false))) (R (bv false))) (R (bv false))) (R (bv false))))))))):=by
  intro h1 h2
  refine pairC (by omega) (by omega) (fun q z l e s1 d1 s2 d2 q1 q2 q3 q4 q5 q6=>?_)
  refine pairS (by omega) (by omega) (fun w z' e' s4 s5 hw=>?_)
  refine same23 q1 q2 q6 (onBool_bv (ifB_t rfl (ifB_t (by simp) ?_)))
  refine same15M q3 q4 q5 ?_
  rw [dc_tM rfl]
  refine onBool_bv (ifB_t rfl (ifB_t (by simp) ?_))
  refine onSome_mk (byteL_ul w) (onSome_mk (byteL_ul w) (ifB_t (by simp) (ifB_t (by simp) ?_)))
  rw [show (e' == e')=true from by simp]
  exact h
 refine lots28 (p:=[a,b]) (by simp) (fun b1=>onBool_bv (ifB_mk (fun _=>h) (fun _=>?_)))
 refine lots28P hp (fun b1=>onBool_bv (ifB_mk (fun _=>h) (fun _=>?_)))
 rw [pll_length,nl_lengthP]
 refine ifB_mk (fun _=>h) (fun g1=>?_)
 have g1:p.length≤12:=by have:=of_decide_eq_false g1; omega
 refine ifB_mk (fun _=>ifB_mk (fun _=>h) (fun _=>?_)) (fun _=>?_)
 ·refine ifB_mk (fun _=>h) (fun g2=>?_)
  exact tail g1 (by have:=of_decide_eq_false g2; omega)
 ·refine ifB_mk (fun _=>h) (fun g2=>?_)
  exact tail g1 (by have:=of_decide_eq_false g2; omega)
end Go.Proofs.Ytmddjopahcbefaa
namespace Go.Proofs.Ytmddjopahcbefaa.Clean
open Go.Deep
set_option linter.unusedSimpArgs false
set_option linter.unusedVariables false
section
variable {H:Type} (enc:TypeId×Value→H) (P:Program) (w:World)
def FW (r:Nat):Prop:=r<w.heap.size
def Opens (t:TypeId) {α:Type} (f:α→List V) (ok:α→Prop):Prop :=
 ∀ fuel cs x,DataW.trod enc P w 0 (fun _=>true) true fuel t cs=some x → ∃ a,riL (FW w) w (f a) cs∧ok a ∧ ∀ u∈cs,u.oneCell' = true
def OpensF (total:Nat) (off:Nat) (fs:List Field) {α:Type} (f:α→List V) (ok:α→Prop):Prop :=
 ∀ n (cs:List Value),cs.length=total→(∀ fd∈fs, ∃ x,DataW.trod enc P w 0 (fun _=>true) true n fd.type ((cs.drop fd.offset).take (P.cellsOf fd.type))=some x) →
  ∃ a,riL (FW w) w (f a) (cs.drop off)∧ok a ∧ ∀ u∈cs.drop off,u.oneCell' = true
end
section
variable {H:Type} {enc:TypeId×Value→H} {P:Program} {w:World}
theorem riL_append : ∀ {vs us:List V} {xs ys:List Value},riL (FW w) w vs xs→riL (FW w) w us ys→riL (FW w) w (vs++us) (xs++ys)
 | [],us,xs,ys,h,k=>by simp only [riL] at h; subst h; simpa using k
 | v::vs,us,xs,ys,h,k=>by
  simp only [riL] at h
  obtain ⟨x,zs,rfl,h2,h3⟩:=h
  simp only [List.cons_append,riL]
  exact ⟨x,zs++ys,rfl,h2,riL_append h3 k⟩
theorem riL_one {v:V} {x:Value} (h:ri (FW w) w v x):riL (FW w) w [v] [x]:=by simp only [riL]; exact ⟨x,[],rfl,h,rfl⟩
theorem riL_get : ∀ {vs:List V} {xs:List Value},riL (FW w) w vs xs → ∀ (i:Nat) v,vs[i]? = some v → ∃ x,xs[i]? = some x∧ri (FW w) w v x
 | [],xs,h,i,v,hi=>by simp at hi
 | u::vs,xs,h,i,v,hi=>by
  simp only [riL] at h
  obtain ⟨x,ys,rfl,h2,h3⟩:=h
  cases i with
  | zero=>simp at hi; subst hi; exact ⟨x,rfl,h2⟩
  | succ i=>simp at hi; simpa using riL_get h3 i v hi
theorem riL_length : ∀ {vs:List V} {xs:List Value},riL (FW w) w vs xs→xs.length=vs.length
 | [],xs,h=>by simp only [riL] at h; simp [h]
 | v::vs,xs,h=>by simp only [riL] at h; obtain ⟨x,ys,rfl,_,h3⟩:=h; simp [riL_length h3]
theorem opens_int {t:TypeId} {k:IntKind} (ht:P.underlying t=some (.int k)):Opens enc P w t (fun n:Int=>[.raw (.int k n)]) (fun n=>(Lit.int k n).wf=true):=by
 intro fuel cs x h
 obtain ⟨n,rfl,_,hw⟩:=DataW.trod_int ht h
 exact ⟨n,riL_one (by simp [ri]),hw,by simp [Value.oneCell']⟩
theorem opens_slice {t e:TypeId} {s:Nat} {α:Type} {f:α→List V} {ok:α→Prop} (ht:P.underlying t=some (.slice e)) (hs:P.cellsOf e=s) (hpos:s≠0) (ho:Opens enc P w e f ok) :
  Opens enc P w t (fun l:List α=>[.lst s (l.map f)]) (fun l=>l.length≤maxLen ∧ ∀ a∈l,ok a):=by
 intro fuel cs x h
 rcases open_slice ht h with ⟨rfl,_⟩ | ⟨a,len,cap,m,n,D,Pl,rfl,_,hl,hm,hmm,_,hx⟩
 ·exact ⟨[],riL_one (by simp [ri]),by simp,by simp [Value.oneCell']⟩
 ·simp only [if_true] at hmm
  subst hmm
  rw [hs] at hx
  have each : ∀ i,i<len → ∃ q:α,(∃ cs', w.cells? 0 (a.add (i * s)) s=some cs' ∧ riL (FW w) w (f q) cs' ∧ ∀ u∈cs', u.oneCell' = true)∧ok q:=by
   intro i hi
   obtain ⟨cs', h1,h2⟩:=hx i (by omega)
   obtain ⟨q,h3,h4,h5⟩:=ho _ _ _ h2
   exact ⟨q,⟨cs', h1,h3,h5⟩,h4⟩
  obtain ⟨q,hq⟩ : ∃ q:Nat→Option α, ∀ i,i<len → ∃ y,q i=some y∧(∃ cs', w.cells? 0 (a.add (i * s)) s=some cs' ∧ riL (FW w) w (f y) cs' ∧ ∀ u∈cs', u.oneCell' = true)∧ok y:=by
   refine Classical.axiomOfChoice (r:=fun i (o:Option α)=>i<len → ∃ y,o=some y∧(∃ cs', w.cells? 0 (a.add (i * s)) s=some cs' ∧ riL (FW w) w (f y) cs' ∧ ∀ u∈cs', u.oneCell' = true)∧ok y) ?_
   intro i
   by_cases hi:i<len
   ·obtain ⟨y,hy⟩:=each i hi
    exact ⟨some y,fun _=>⟨y,rfl,hy⟩⟩
   ·exact ⟨none,fun h=>(hi h).elim⟩
  let l:List α:=(List.range len).filterMap q
  have hl' : l.length=len ∧ ∀ i,i<len→l[i]? = q i:=by
   have key : ∀ k,k≤len→((List.range k).filterMap q).length=k ∧ ∀ i,i<k→((List.range k).filterMap q)[i]? = q i:=by
    intro k
    induction k with
    | zero=>intro _; simp
    | succ k ih =>
     intro hk
     obtain ⟨h1,h2⟩:=ih (by omega)
     obtain ⟨y,hy,_⟩:=hq k (by omega)
     have:(List.range (k+1)).filterMap q=(List.range k).filterMap q++[y]:=by rw [List.range_succ,List.filterMap_append]; simp [hy]
     rw [this]
     refine ⟨by simp [h1],fun i hi=>?_⟩
     by_cases hik:i<k
     ·rw [List.getElem?_append_left (by omega)]; exact h2 i hik
     ·have:i=k:=by omega
      subst this
      rw [List.getElem?_append_right (by omega),h1,hy]; simp
   exact key len (Nat.le_refl _)
  refine ⟨l,riL_one ?_,⟨by omega,fun b hb=>?_⟩,by simp [Value.oneCell']⟩
  ·simp only [ri]
   refine .inr ⟨a,m,by simp [hl'.1]; exact hl,by simp [hl'.1],?_⟩
   by_cases h0:len=0
   ·left
    have:l=[]:=List.eq_nil_of_length_eq_zero (by omega)
    simp [this]
   ·right
    have cell : ∀ (i:Nat) (cs' : List Value),i<len→w.cells? 0 (a.add (i * s)) s=some cs' → ∀ j,j<s→w.cell? (a.add (i * s+j))=cs'[j]? ∧ cs'.length=s:=by
     intro i cs' hi hc j hj
     obtain ⟨_,hlen,hcc⟩:=World.cells?_some hc
     have:=hcc j hj
     rw [add_add] at this
     exact ⟨this,hlen⟩
    obtain ⟨y0,hy0,⟨cs0,c1,_,_⟩,_⟩:=hq 0 (by omega)
    have hc0:=(cell 0 cs0 (by omega) c1 0 (by omega))
    have hsome : ∃ u,w.cell? a=some u:=by
     have h1:=hc0.1
     rw [Nat.zero_mul,Nat.zero_add] at h1
     have:a.add 0=a:=by simp [Addr.add]
     rw [this] at h1
     rw [h1]
     exact ⟨cs0[0]'(by omega),List.getElem?_eq_getElem (by omega)⟩
    obtain ⟨u0,hu0⟩:=hsome
    have hspot:a.spot=none:=by
     unfold World.cell? at hu0
     split at hu0
     ·split at hu0
      ·cases hu0
      ·rename_i h; simpa using h
     ·cases hu0
    obtain ⟨ab,ao,asp⟩:=a
    simp only at hspot
    subst hspot
    refine ⟨rfl,World.block_lt_of_cell? w _ hu0,?_⟩
    rw [riRows_iff]
    intro i row hrow
    rw [List.getElem?_map,Option.map_eq_some_iff] at hrow
    obtain ⟨b,hb,rfl⟩:=hrow
    have hi:i<len:=by have:=(List.getElem?_eq_some_iff.1 hb).1; omega
    obtain ⟨y,hy,⟨cs', g1,g2,g3⟩,_⟩:=hq i hi
    rw [hl'.2 i hi,hy] at hb
    simp at hb
    subst hb
    have hlen' := riL_length g2
    obtain ⟨_,hclen,_⟩:=World.cells?_some g1
    refine ⟨by omega,fun j v hj=>?_⟩
    obtain ⟨z,z1,z2⟩:=riL_get g2 j v hj
    have hjs:j<s:=by have:=(List.getElem?_eq_some_iff.1 z1).1; omega
    refine ⟨z,?_,g3 z (List.mem_of_getElem? z1),z2⟩
    have:=(cell i cs' hi g1 j hjs).1
    rw [add_lit,← Nat.add_assoc] at this
    rw [this]; exact z1
  ·obtain ⟨i,hi⟩:=List.mem_iff_getElem?.1 hb
   have hil:i<len:=by have:=(List.getElem?_eq_some_iff.1 hi).1; omega
   obtain ⟨y,hy,_,hok⟩:=hq i hil
   rw [hl'.2 i hil,hy] at hi
   simp at hi
   exact hi ▸ hok
theorem opensF_nil {total:Nat}:OpensF enc P w total total [] (fun _:Unit=>[]) (fun _=>True):=by
 intro n cs hl _
 rw [List.drop_of_length_le (by omega)]
 exact ⟨(),by simp [riL],trivial,by simp⟩
theorem opensF_cons {total off k:Nat} {fd:Field} {fs:List Field} {α β:Type} {f:α→List V} {g:β→List V} {ok:α→Prop} {ok' : β→Prop} (ho:fd.offset=off) (hk:P.cellsOf fd.type=k)
  (h1:Opens enc P w fd.type f ok) (h2:OpensF enc P w total (off+k) fs g ok'):OpensF enc P w total off (fd::fs) (fun x:α×β=>f x.1++g x.2) (fun x=>ok x.1∧ok' x.2):=by
 intro n cs hl hf
 obtain ⟨x,hx⟩:=hf fd (by simp)
 rw [ho,hk] at hx
 obtain ⟨a,a1,a2,a3⟩:=h1 _ _ _ hx
 obtain ⟨b,b1,b2,b3⟩:=h2 n cs hl (fun fd' h' => hf fd' (by simp [h']))
 have hsplit:cs.drop off=(cs.drop off).take k++cs.drop (off+k):=by rw [← List.drop_drop,List.take_append_drop]
 refine ⟨(a,b),?_,⟨a2,b2⟩,?_⟩
 ·rw [hsplit]; exact riL_append a1 b1
 ·rw [hsplit]
  intro u hu
  rcases List.mem_append.1 hu with hu | hu
  ·exact a3 u hu
  ·exact b3 u hu
theorem opens_struct {t:TypeId} {fs:Array Field} {total:Nat} {α:Type} {f:α→List V} {ok:α→Prop} (ht:P.underlying t=some (.struct fs)) (hc:P.cellsOf t=total) (h:OpensF enc P w total 0 fs.toList f ok):Opens enc P w t f ok:=by
 intro fuel cs x hx
 obtain ⟨xs,n,_,_,hl,hxl,hf⟩:=DataW.trod_struct ht hx
 have:=h n cs (by omega) (fun fd hfd=>by
  obtain ⟨i,hi⟩:=List.mem_iff_getElem?.1 hfd
  have hi' : fs[i]? = some fd:=by simpa using hi
  have:=hf i fd hi'
  have hil:i<xs.length:=by rw [hxl]; exact lt_of_some hi'
  rw [List.getElem?_eq_getElem hil] at this
  exact ⟨_,this⟩)
 simpa using this
theorem arg_slice {t e:TypeId} {v:Value} {d:DataW H} {p:List MemPlace} {r:Reach} {b0:Nat} {α:Type} {f:α→V} {ok:α→Prop} (ht:P.underlying t=some (.slice e)) (hval:Value.okWide P w r b0 t v) (h:DataW.Trod enc P w 0 (fun _=>true) true t v d p)
  (ho:Opens enc P w t (fun a=>[f a]) ok) : ∃ a,ri (FW w) w (f a) v∧ok a:=by
 obtain ⟨a,len,cap,rfl⟩:=WideShapes.okWide_slice ht hval
 obtain ⟨fuel,hf⟩:=h
 obtain ⟨y,h1,h2,_⟩:=ho _ _ _ hf
 simp only [Value.cells,riL] at h1
 obtain ⟨x,xs,hx,h3,_⟩:=h1
 simp at hx
 exact ⟨y,by rw [hx.1]; exact h3,h2⟩
end
end Go.Proofs.Ytmddjopahcbefaa.Clean
