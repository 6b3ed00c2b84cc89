/- A part of the proof. -/
import Derived.Test.YtbionhgjgcpogaaGreatDoorProg
import Derived.Test.YtbionhgjgcpogaaGreatDoorXP9G10
import Derived.Test.YtbionhgjgcpogaaGreatDoorXP9G12
import Derived.Test.YtbionhgjgcpogaaGreatDoorXP9G17
namespace Go.Proofs.YtbionhgjgcpogaaGreatDoor
open Go Go.Proofs.YtbionhgjgcpogaaGreatDoor.Clean
set_option linter.unusedVariables false
set_option linter.unusedSimpArgs false
set_option maxRecDepth 10000
theorem HeapOK_same {ν:Nu} {F:Nat→Prop} {a b:Hp} {w:World} (hs:SameH a b) (k:HeapOK ν F a w):HeapOK ν F b w:=by
  have hg : ∀ x,b.get x=a.get x:=fun x=>by
    obtain ⟨_,h2,h3⟩:=hs
    cases x with
    | p n=>exact (h3 n).symm
    | m B k=>unfold Hp.get; rw [h2]
  exact ⟨fun x r s n hx=>by rw [hg]; exact k.blk x r s n hx,fun x o hx=>k.dom x o (by rw [← hg]; exact hx),k.inj,k.frz,k.nxt.trans hs.1,fun B=>by rw [← hs.2.1]; exact k.cnt B⟩
theorem KM_of_WYKe {P:Program} (hm:P.follows .mixedOrders=true) {cfg:Cfg} (hcf:cfg.ok P) (fuel:Nat) {f:FuncId} {fn:Func} (hf:P.funcs[f]? = some fn) {args:List V} {h:Hp} {post:Hp→Us→Hp} {Q:V→Us→Prop} (hw : ∀ R:V→Hp→Prop,(∀ v us h1,Q v us→SameH h1 (post h us)→R v h1)→WYK P cfg fuel f fn args h R):KM P cfg.glob f args h post Q:=by
  unfold KM
  have:=K_of_WYK hm hcf fuel hf (hw (fun v h1 => ∃ us,SameH h1 (post h us)∧Q v us) fun v us h1 hv hs=>⟨us,hs,hv⟩)
  intro ν F w xs g1 g2 g3
  exact (this ν F w xs g1 g2 g3).mono fun e w' ⟨x,v,ν', F', h', z1,⟨us,hs,hq⟩,z3,z4,z5,z6⟩=>⟨x,v,ν', F', _,z1,⟨us,rfl,hq⟩,HeapOK_same hs z3,z4,z5,z6⟩
def gat (ls:List Int) (v:Nat):Int:=ls.getD v (-1)
def Asg (ls:List Int) (v:Nat):Prop:=gat ls v ≠ -1
def Adj (js:List Jt) (a b:Nat):Prop := ∃ j∈js,(j.1=(a:Int)∧j.2.1=(b:Int))∨(j.1=(b:Int)∧j.2.1=(a:Int))
inductive Con (js:List Jt):Nat→Nat→Prop where
  | refl (a:Nat):Con js a a
  | step {a b c:Nat}:Con js a b→Adj js b c→Con js a c
theorem Adj.symm {js:List Jt} {a b:Nat} (h:Adj js a b):Adj js b a:=by
  obtain ⟨j,hj,h⟩:=h
  exact ⟨j,hj,h.symm⟩
theorem Con.trans {js:List Jt} {a b c:Nat} (h:Con js a b) (g:Con js b c):Con js a c:=by
  induction g with
  | refl=>exact h
  | step _ e ih=>exact ih.step e
theorem Con.symm {js:List Jt} {a b:Nat} (h:Con js a b):Con js b a:=by
  induction h with
  | refl=>exact .refl _
  | step _ e ih=>exact (Con.step (.refl _) e.symm).trans ih
structure Vis (js:List Jt) (ls:List Int) (b f:Nat) (ls' : List Int):Prop where
  len:ls'.length=ls.length
  old : ∀ v,Asg ls v→gat ls' v=gat ls v
  got:Asg ls' b
  new : ∀ v, ¬ Asg ls v→Asg ls' v→gat ls' v=(f:Int)∧Con js b v
  clo : ∀ v w, ¬ Asg ls v→Asg ls' v→Adj js v w→Asg ls' w
  same:Asg ls b→ls' = ls
structure LInv (js:List Jt) (b f:Nat) (ls:List Int) (T:Nat→Prop) (lk:List Int):Prop where
  len:lk.length=ls.length
  old : ∀ v,Asg ls v→gat lk v=gat ls v
  new : ∀ v, ¬ Asg ls v→Asg lk v→gat lk v=(f:Int)∧Con js b v
  clo : ∀ v w, ¬ Asg ls v→Asg lk v→Adj js v w→Asg lk w
  nb : ∀ w,T w→Asg lk w
theorem LInv.call {js:List Jt} {b f w:Nat} {ls lk lk' : List Int} {T:Nat→Prop} (h:LInv js b f ls T lk) (ha:Adj js b w) (hv:Vis js lk w f lk'):LInv js b f ls (fun x=>T x∨x=w) lk' := by
  have keep : ∀ v,Asg lk v→Asg lk' v:=fun v hv' => by unfold Asg; rw [hv.old v hv']; exact hv'
  refine ⟨hv.len.trans h.len,fun v h1=>?_,fun v h1 h2=>?_,fun v x h1 h2 h3=>?_,fun x hx=>?_⟩
  · have:=h.old v h1
    have h4:Asg lk v:=by unfold Asg; rw [this]; exact h1
    rw [hv.old v h4,this]
  · by_cases h4:Asg lk v
    · rw [hv.old v h4]; exact h.new v h1 h4
    · obtain ⟨e,c⟩:=hv.new v h4 h2
      exact ⟨e,(Con.step (.refl b) ha).trans c⟩
  · by_cases h4:Asg lk v
    · exact keep x (h.clo v x h1 h4 h3)
    · exact hv.clo v x h4 h2 h3
  · rcases hx with hx | hx
    · exact keep x (h.nb x hx)
    · rw [hx]; exact hv.got
def un (ls:List Int) (n:Nat):Nat:=((List.range n).filter fun v=>gat ls v == -1).length
theorem un_succ (ls:List Int) (n:Nat):un ls (n+1)=un ls n+if gat ls n = -1 then 1 else 0:=by
  unfold un
  rw [List.range_succ,List.filter_append,List.length_append]
  by_cases h:gat ls n = -1 <;> simp [h]
theorem un_le {ls ls' : List Int} (h : ∀ v,Asg ls v→Asg ls' v) : ∀ n,un ls' n≤un ls n
  | 0=>by simp [un]
  | n+1=>by
    have:=un_le h n
    rw [un_succ,un_succ]
    by_cases g:gat ls n = -1
    · rw [if_pos g]; split <;> omega
    · rw [if_neg g,if_neg (h n g)]; omega
theorem un_lt {ls ls' : List Int} (h : ∀ v,Asg ls v→Asg ls' v) {b:Nat} (h1 : ¬ Asg ls b) (h2:Asg ls' b) : ∀ n,b<n→un ls' n<un ls n
  | 0,hb=>by omega
  | n+1,hb=>by
    rw [un_succ,un_succ]
    rcases Nat.lt_succ_iff_lt_or_eq.1 hb with g | g
    · have:=un_lt h h1 h2 n g
      by_cases e:gat ls n = -1
      · rw [if_pos e]; split <;> omega
      · rw [if_neg e,if_neg (h n e)]; omega
    · subst g
      have:=un_le h b
      have e:gat ls b = -1:=by unfold Asg at h1; omega
      have e2 : ¬ gat ls' b = -1:=h2
      rw [if_pos e,if_neg e2]
      omega
theorem gat_set {ls:List Int} {b v:Nat} {x:Int} (hb:b<ls.length):gat (ls.set b x) v=if b=v then x else gat ls v:=by
  unfold gat
  rw [List.getD_eq_getElem?_getD,List.getD_eq_getElem?_getD,List.getElem?_set]
  by_cases e:b=v
  · subst e; simp [hb]
  · simp [e]
theorem gat_get {ls:List Int} {v:Nat} (h:v<ls.length):ls[v]? = some (gat ls v):=by
  unfold gat
  rw [List.getD_eq_getElem?_getD]
  simp [h]
theorem nl_get0 {l:List Int} {k:Nat} {x:Int} (h:l[k]? = some x):(nl l)[0+k]? = some [iv x]:=by rw [Nat.zero_add]; simp [nl,h]
theorem nl_set0 {l:List Int} {k:Nat} {x y:Int}:(nl l).set (0+k) (iv y::List.append [] (List.drop 1 [iv x]))=nl (l.set k y):=by
  rw [Nat.zero_add]
  refine List.ext_getElem? (fun i=>?_)
  simp only [nl,List.getElem?_map,List.getElem?_set,List.length_map]
  split
  · split <;> rfl
  · rfl
theorem jel {L:List Jt} {i:Nat} {x:Jt} {k:Int→Int→Int→Int→Bool→Prop} (h:L[i]? = some x) (hk:k x.1 x.2.1 x.2.2.1 x.2.2.2.1 x.2.2.2.2):onSome (jtl L)[i]? fun row=>onCons (List.drop 0 row) fun u r=>onIntK IntKind.i64 u fun n=>onCons r fun u r=>onIntK IntKind.i64 u fun n_1=>onCons r fun u r=>onIntK IntKind.i64 u fun n_2=>onCons r fun u r=>onIntK IntKind.u8 u fun n_3=>onCons r fun u r=>onBool u fun b=>k n n_1 n_2 n_3 b:=onSome_mk (x:=jtr x) (by simp [jtl,h]) hk
def JsR (js:List Jt) (n:Nat):Prop := ∀ j∈js,(0≤j.1∧j.1.toNat<n)∧0≤j.2.1∧j.2.1.toNat<n
def nbT (js:List Jt) (b k:Nat) (w:Nat):Prop := ∃ j∈js.take k,(j.1=(b:Int)∧j.2.1=(w:Int))∨(j.1=(w:Int)∧j.2.1=(b:Int))
theorem LInv.mono {js:List Jt} {b f:Nat} {ls lk:List Int} {T T' : Nat→Prop} (h:LInv js b f ls T lk) (hT : ∀ w,T' w→T w):LInv js b f ls T' lk:=⟨h.len,h.old,h.new,h.clo,fun w hw=>h.nb w (hT w hw)⟩
set_option maxHeartbeats 1000000 in
theorem visit120 {js:List Jt} {n f:Nat} (hj:JsR js n) (hlen:js.length≤1000000000) : ∀ (d b:Nat) (ls:List Int) {args:List V} {Q:V→Us→Prop},un ls n=d→ls.length=n→b<n→(∀ ls', Vis js ls b f ls' → Q (.tup []) [nl ls'])→KM Tryz.prog glX 120 [iv (b:Int),iv (f:Int),.ptr (.p 0) 0 0,.ptr (.p 2) 0 0,.ptr (.p 3) 0 0] (memG js n (nl ls)) (poJ9 120 args) Q:=by
  intro d
  induction d using Nat.strongRecOn with
  | ind d ih =>
    intro b lq args Q hd hn hb hQ
    obtain ⟨ls,hls⟩ : ∃ ls,ls=nl lq:=⟨_,rfl⟩
    rw [← hls]
    refine KM_of_WYKe hmX hcJ9 3000 Tryz.func120 (fun R hR=>?_)
    refine see (p:=need (b<n) (onSome ls[0+b]? fun row=>onSome row[0]? fun v=>onIntK IntKind.i64 v fun n_1=>ifB (n_1 != (-1:Int)) (R (V.tup []) (Hp.mk [(0,O.rows 1 false [[V.sl (Id.p 1) 0 n]]),(1,O.rows 1 true ls),(2,O.rows 1 false [[V.lst 5 (jtl js)]]),(3,O.rows 1 false [[V.fn (Fn.func (120:FuncId)) [] [V.ptr (Id.p 0) 0 0,V.ptr (Id.p 2) 0 0,V.ptr (Id.p 3) 0 0]]])] 4 [])) (need (b<n) (onSome ls[0+b]? fun row=>guardB ((0+1).ble row.length) (La 4 [(0:Tmp),(1:Tmp),(2:Tmp),(3:Tmp),(4:Tmp),(18:Tmp),(19:Tmp),(20:Tmp)] (WY Tryz.prog cfJ9 2995 (Env.mk (Bs.mk 0 []) 4 none 43 120 0) (cdAt [1,1,1,0,0] (bodyOf Tryz.f120))) (Qblk 0 (QendX Tryz.prog Tryz.f120 R)) (St.mk (mkT [(0,iv (↑b:Int)),(1,iv (↑f:Int)),(2,V.ptr (Id.p 0) 0 0),(3,V.ptr (Id.p 2) 0 0),(4,V.ptr (Id.p 3) 0 0),(18,V.lst 5 (jtl js)),(19,iv (↑(jtl js).length:Int)),(20,iv (0:Int))]) (Hp.mk [(1,O.rows 1 true (ls.set (0+b) (iv (↑f:Int)::(List.append []) (List.drop 1 row)))),(0,O.rows 1 false [[V.sl (Id.p 1) 0 n]]),(2,O.rows 1 false [[V.lst 5 (jtl js)]]),(3,O.rows 1 false [[V.fn (Fn.func (120:FuncId)) [] [V.ptr (Id.p 0) 0 0,V.ptr (Id.p 2) 0 0,V.ptr (Id.p 3) 0 0]]])] 4 []))))))) (by kernel_rfl) ?_
    have hg:lq[b]? = some (gat lq b):=gat_get (by omega)
    rw [hls] at hR ⊢
    refine need_mk ⟨hb,onSome_mk (nl_get0 hg) (onSome_mk (x:=iv (gat lq b)) rfl (onIntK_iv (ifB_mk (fun c=>?_) (fun c=>?_))))⟩
    · have ha:Asg lq b:=by unfold Asg; simpa using c
      have hV:Vis js lq b f lq:=⟨rfl,fun v _=>rfl,ha,fun v h1 h2=>(h1 h2).elim,fun v w h1 h2=>(h1 h2).elim,fun _=>rfl⟩
      refine hR _ _ _ (hQ lq hV) ⟨rfl,rfl,fun n=>?_⟩
      rcases n with _ | _ | _ | _ | n <;> rfl
    have hu : ¬ Asg lq b:=fun h=>by unfold Asg at h; simp at c; exact h c
    refine need_mk ⟨hb,onSome_mk (nl_get0 hg) (guardB_mk rfl ?_)⟩
    rw [nl_set0]
    obtain ⟨l1,hl1⟩ : ∃ l1,l1=lq.set b (f:Int):=⟨_,rfl⟩
    rw [← hl1]
    obtain ⟨s,hs⟩ : ∃ s,s=(jtl js).length:=⟨_,rfl⟩
    rw [← hs]
    rw [jtl_length] at hs
    have g1 : ∀ v,gat l1 v=if b=v then (f:Int) else gat lq v:=fun v=>by rw [hl1,gat_set (by omega)]
    have a1:Asg l1 b:=by unfold Asg; rw [g1,if_pos rfl]; omega
    have hun:un l1 n<un lq n:=un_lt (fun v hv=>by unfold Asg; rw [g1]; split; omega; exact hv) hu a1 n hb
    have hlen1:l1.length=n:=by rw [hl1,List.length_set]; exact hn
    refine La.of (σ:=Nat×List Int) (fun t=>sh120 js n (nl t.2) b f s t.1) (fun t=>t.1≤s∧LInv js b f l1 (nbT js b t.1) t.2) (fun t=>s - t.1) (0,l1) (by kernel_rfl) ⟨by simp only; omega,⟨rfl,fun v _=>rfl,fun v h1 h2=>(h1 h2).elim,fun v w h1 h2=>(h1 h2).elim,fun w hw=>by obtain ⟨j,hj,_⟩:=hw; simp at hj⟩⟩ ?_
    rintro ⟨k,lk⟩ ⟨k1,hI⟩ J hJ
    simp only at k1 hI
    obtain ⟨ls,hls⟩ : ∃ ls,ls=nl lk:=⟨_,rfl⟩
    rw [← hls]
    refine see (p:=ifB (decide ((↑k:Int)<(↑s:Int))) (onSome (jtl js)[k]? fun row=>onCons (List.drop 0 row) fun u r=>onIntK IntKind.i64 u fun n_1=>onCons r fun u r=>onIntK IntKind.i64 u fun n_2=>onCons r fun u r=>onIntK IntKind.i64 u fun n_3=>onCons r fun u r=>onIntK IntKind.u8 u fun n_4=>onCons r fun u r=>onBool u fun b_1=>ifB (n_1==(↑b:Int)) (KM Tryz.prog glX 120 [iv n_2,iv (↑f:Int),V.ptr (Id.p 0) 0 0,V.ptr (Id.p 2) 0 0,V.ptr (Id.p 3) 0 0] (Hp.mk [(0,O.rows 1 false [[V.sl (Id.p 1) 0 n]]),(1,O.rows 1 true ls),(2,O.rows 1 false [[V.lst 5 (jtl js)]]),(3,O.rows 1 false [[V.fn (Fn.func (120:FuncId)) [] [V.ptr (Id.p 0) 0 0,V.ptr (Id.p 2) 0 0,V.ptr (Id.p 3) 0 0]]])] 4 []) (poJ9 120 [iv n_2,iv (↑f:Int),V.ptr (Id.p 0) 0 0,V.ptr (Id.p 2) 0 0,V.ptr (Id.p 3) 0 0]) fun v us=>onTup v fun vs=>onNil vs (ifB (n_2==(↑b:Int)) (KM Tryz.prog glX 120 [iv n_1,iv (↑f:Int),V.ptr (Id.p 0) 0 0,V.ptr (Id.p 2) 0 0,V.ptr (Id.p 3) 0 0] (Hp.mk [(0,O.rows 1 false [[V.sl (Id.p 1) 0 n]]),(1,O.rows 1 true (List.getD us 0 [])),(2,O.rows 1 false [[V.lst 5 (jtl js)]]),(3,O.rows 1 false [[V.fn (Fn.func (120:FuncId)) [] [V.ptr (Id.p 0) 0 0,V.ptr (Id.p 2) 0 0,V.ptr (Id.p 3) 0 0]]])] 4 []) (poJ9 120 [iv n_1,iv (↑f:Int),V.ptr (Id.p 0) 0 0,V.ptr (Id.p 2) 0 0,V.ptr (Id.p 3) 0 0]) fun v us=>onTup v fun vs=>onNil vs (J (St.mk (mkT [(0,iv (↑b:Int)),(1,iv (↑f:Int)),(2,V.ptr (Id.p 0) 0 0),(3,V.ptr (Id.p 2) 0 0),(4,V.ptr (Id.p 3) 0 0),(18,V.lst 5 (jtl js)),(19,iv (↑s:Int)),(20,iv (IntKind.i64.wrap ((↑k:Int)+(1:Int))))]) (Hp.mk [(1,O.rows 1 true (List.getD us 0 [])),(0,O.rows 1 false [[V.sl (Id.p 1) 0 n]]),(2,O.rows 1 false [[V.lst 5 (jtl js)]]),(3,O.rows 1 false [[V.fn (Fn.func (120:FuncId)) [] [V.ptr (Id.p 0) 0 0,V.ptr (Id.p 2) 0 0,V.ptr (Id.p 3) 0 0]]])] 4 [])))) (J (St.mk (mkT [(0,iv (↑b:Int)),(1,iv (↑f:Int)),(2,V.ptr (Id.p 0) 0 0),(3,V.ptr (Id.p 2) 0 0),(4,V.ptr (Id.p 3) 0 0),(18,V.lst 5 (jtl js)),(19,iv (↑s:Int)),(20,iv (IntKind.i64.wrap ((↑k:Int)+(1:Int))))]) (Hp.mk [(1,O.rows 1 true (List.getD us 0 [])),(0,O.rows 1 false [[V.sl (Id.p 1) 0 n]]),(2,O.rows 1 false [[V.lst 5 (jtl js)]]),(3,O.rows 1 false [[V.fn (Fn.func (120:FuncId)) [] [V.ptr (Id.p 0) 0 0,V.ptr (Id.p 2) 0 0,V.ptr (Id.p 3) 0 0]]])] 4 []))))) (ifB (n_2==(↑b:Int)) (KM Tryz.prog glX 120 [iv n_1,iv (↑f:Int),V.ptr (Id.p 0) 0 0,V.ptr (Id.p 2) 0 0,V.ptr (Id.p 3) 0 0] (Hp.mk [(0,O.rows 1 false [[V.sl (Id.p 1) 0 n]]),(1,O.rows 1 true ls),(2,O.rows 1 false [[V.lst 5 (jtl js)]]),(3,O.rows 1 false [[V.fn (Fn.func (120:FuncId)) [] [V.ptr (Id.p 0) 0 0,V.ptr (Id.p 2) 0 0,V.ptr (Id.p 3) 0 0]]])] 4 []) (poJ9 120 [iv n_1,iv (↑f:Int),V.ptr (Id.p 0) 0 0,V.ptr (Id.p 2) 0 0,V.ptr (Id.p 3) 0 0]) fun v us=>onTup v fun vs=>onNil vs (J (St.mk (mkT [(0,iv (↑b:Int)),(1,iv (↑f:Int)),(2,V.ptr (Id.p 0) 0 0),(3,V.ptr (Id.p 2) 0 0),(4,V.ptr (Id.p 3) 0 0),(18,V.lst 5 (jtl js)),(19,iv (↑s:Int)),(20,iv (IntKind.i64.wrap ((↑k:Int)+(1:Int))))]) (Hp.mk [(1,O.rows 1 true (List.getD us 0 [])),(0,O.rows 1 false [[V.sl (Id.p 1) 0 n]]),(2,O.rows 1 false [[V.lst 5 (jtl js)]]),(3,O.rows 1 false [[V.fn (Fn.func (120:FuncId)) [] [V.ptr (Id.p 0) 0 0,V.ptr (Id.p 2) 0 0,V.ptr (Id.p 3) 0 0]]])] 4 [])))) (J (St.mk (mkT [(0,iv (↑b:Int)),(1,iv (↑f:Int)),(2,V.ptr (Id.p 0) 0 0),(3,V.ptr (Id.p 2) 0 0),(4,V.ptr (Id.p 3) 0 0),(18,V.lst 5 (jtl js)),(19,iv (↑s:Int)),(20,iv (IntKind.i64.wrap ((↑k:Int)+(1:Int))))]) (Hp.mk [(1,O.rows 1 true ls),(0,O.rows 1 false [[V.sl (Id.p 1) 0 n]]),(2,O.rows 1 false [[V.lst 5 (jtl js)]]),(3,O.rows 1 false [[V.fn (Fn.func (120:FuncId)) [] [V.ptr (Id.p 0) 0 0,V.ptr (Id.p 2) 0 0,V.ptr (Id.p 3) 0 0]]])] 4 []))))) (R (V.tup []) (Hp.mk [(1,O.rows 1 true ls),(0,O.rows 1 false [[V.sl (Id.p 1) 0 n]]),(2,O.rows 1 false [[V.lst 5 (jtl js)]]),(3,O.rows 1 false [[V.fn (Fn.func (120:FuncId)) [] [V.ptr (Id.p 0) 0 0,V.ptr (Id.p 2) 0 0,V.ptr (Id.p 3) 0 0]]])] 4 []))) (by kernel_rfl) ?_
    rw [hls]
    have call : ∀ (T:Nat→Prop) (lk:List Int) (w:Nat),LInv js b f l1 T lk→Adj js b w→w<n → ∀ {args:List V} {Q:V→Us→Prop},(∀ lk', LInv js b f l1 (fun x=>T x∨x=w) lk' → Q (.tup []) [nl lk'])→KM Tryz.prog glX 120 [iv (w:Int),iv (f:Int),.ptr (.p 0) 0 0,.ptr (.p 2) 0 0,.ptr (.p 3) 0 0] (memG js n (nl lk)) (poJ9 120 args) Q:=by
      intro T lk w hI ha hw args Q hQ
      have h1:un lk n≤un l1 n:=un_le (fun v hv=>by unfold Asg; rw [hI.old v hv]; exact hv) n
      exact ih (un lk n) (by omega) w lk rfl (hI.len.trans hlen1) hw (fun ls' hV=>hQ ls' (hI.call ha hV))
    refine ifB_mk (fun d=>?_) (fun d=>?_)
    · have hk:k<s:=by have:=of_decide_eq_true d; omega
      obtain ⟨j,hjk⟩:=getI (l:=js) (k:=k) (by omega)
      have hjm:=mem_at hjk
      obtain ⟨⟨r1,r2⟩,r3,r4⟩:=hj j hjm
      obtain ⟨u,hu'⟩ : ∃ u:Nat,j.1=(u:Int):=⟨j.1.toNat,by omega⟩
      obtain ⟨w,hw⟩ : ∃ w:Nat,j.2.1=(w:Int):=⟨j.2.1.toNat,by omega⟩
      have ht : ∀ x,nbT js b (k+1) x→nbT js b k x∨(u=b∧x=w)∨(w=b∧x=u):=by
        rintro x ⟨i,hi,h⟩
        rw [take_succ' hjk] at hi
        rcases List.mem_append.1 hi with hi | hi
        · exact .inl ⟨i,hi,h⟩
        · rw [List.mem_singleton.1 hi,hu', hw] at h
          omega
      refine jel hjk ?_
      rw [hu', hw,wr1i hk (by omega)]
      refine ifB_mk (fun c=>?_) (fun c=>?_)
      · have eu:u=b:=by have:=beq_iff_eq.1 c; omega
        refine call _ lk w hI ⟨j,hjm,.inl ⟨by rw [hu', eu],hw⟩⟩ (by omega) (fun lk' hI' => onTup_tup (onNil_nil (ifB_mk (fun c2=>?_) (fun c2=>?_))))
        · have ew:w=b:=by have:=beq_iff_eq.1 c2; omega
          refine call _ lk' u hI' ⟨j,hjm,.inr ⟨hu', by rw [hw,ew]⟩⟩ (by omega) (fun lk2 hI2=>onTup_tup (onNil_nil ?_))
          exact hJ (k+1,lk2) ⟨hk,hI2.mono (fun x hx=>by rcases ht x hx with h | ⟨_,h⟩ | ⟨_,h⟩; exact .inl (.inl h); exact .inl (.inr h); exact .inr h)⟩ (by simp only; omega)
        · have ew : ¬ w=b:=fun e=>by rw [e] at c2; simp at c2
          exact hJ (k+1,lk') ⟨hk,hI'.mono (fun x hx=>by rcases ht x hx with h | ⟨_,h⟩ | ⟨h,_⟩; exact .inl h; exact .inr h; exact (ew h).elim)⟩ (by simp only; omega)
      · have eu : ¬ u=b:=fun e=>by rw [e] at c; simp at c
        refine ifB_mk (fun c2=>?_) (fun c2=>?_)
        · have ew:w=b:=by have:=beq_iff_eq.1 c2; omega
          refine call _ lk u hI ⟨j,hjm,.inr ⟨hu', by rw [hw,ew]⟩⟩ (by omega) (fun lk2 hI2=>onTup_tup (onNil_nil ?_))
          exact hJ (k+1,lk2) ⟨hk,hI2.mono (fun x hx=>by rcases ht x hx with h | ⟨h,_⟩ | ⟨_,h⟩; exact .inl h; exact (eu h).elim; exact .inr h)⟩ (by simp only; omega)
        · have ew : ¬ w=b:=fun e=>by rw [e] at c2; simp at c2
          exact hJ (k+1,lk) ⟨hk,hI.mono (fun x hx=>by rcases ht x hx with h | ⟨h,_⟩ | ⟨h,_⟩; exact h; exact (eu h).elim; exact (ew h).elim)⟩ (by simp only; omega)
    · have hk:s≤k:=by have:=of_decide_eq_false d; omega
      have hV:Vis js lq b f lk:=by
        refine ⟨by rw [hI.len,hlen1,hn],fun v hv=>?_,?_,fun v h1 h2=>?_,fun v x h1 h2 h3=>?_,fun h=>(hu h).elim⟩
        · have hvb : ¬ b=v:=fun e=>hu (e ▸ hv)
          have h1:Asg l1 v:=by unfold Asg; rw [g1,if_neg hvb]; exact hv
          rw [hI.old v h1,g1,if_neg hvb]
        · unfold Asg; rw [hI.old b a1]; exact a1
        · by_cases e:b=v
          · subst e
            rw [hI.old b a1,g1,if_pos rfl]
            exact ⟨rfl,.refl b⟩
          · exact hI.new v (fun h=>h1 (by unfold Asg at h ⊢; rw [g1,if_neg e] at h; exact h)) h2
        · by_cases e:b=v
          · subst e
            obtain ⟨j,hjm,h⟩:=h3
            exact hI.nb x ⟨j,by rw [List.take_of_length_le (by omega)]; exact hjm,h⟩
          · exact hI.clo v x (fun h=>h1 (by unfold Asg at h ⊢; rw [g1,if_neg e] at h; exact h)) h2 h3
      refine hR _ _ _ (hQ lk hV) ⟨rfl,rfl,fun n=>?_⟩
      rcases n with _ | _ | _ | _ | n <;> rfl
structure GrpP (js:List Jt) (n:Nat) (g:List Int):Prop where
  len:g.length=n
  lea : ∀ v,v<n → ∃ u:Nat,gat g v=(u:Int)∧u≤v∧Con js u v ∧ ∀ w,Con js w v→u≤w
structure GInv (js:List Jt) (n i:Nat) (g:List Int):Prop where
  len:g.length=n
  done : ∀ v,v<i→Asg g v
  lea : ∀ v,Asg g v → ∃ u:Nat,gat g v=(u:Int)∧Con js u v ∧ ∀ w,Con js w v→u≤w
  clo : ∀ v w,Asg g v→Adj js v w→Asg g w
theorem GInv.con {js:List Jt} {n i:Nat} {g:List Int} (h:GInv js n i g) {v w:Nat} (hc:Con js v w):Asg g v→Asg g w:=by
  induction hc with
  | refl=>exact id
  | step _ e ih=>exact fun h' => h.clo _ _ (ih h') e
theorem GInv.step {js:List Jt} {n i:Nat} {g g' : List Int} (h:GInv js n i g) (hV:Vis js g i i g'):GInv js n (i+1) g' := by
  have keep : ∀ v,Asg g v→Asg g' v:=fun v hv=>by unfold Asg; rw [hV.old v hv]; exact hv
  refine ⟨hV.len.trans h.len,fun v hv=>?_,fun v hv=>?_,fun v w hv ha=>?_⟩
  · rcases Nat.lt_succ_iff_lt_or_eq.1 hv with h1 | h1
    · exact keep v (h.done v h1)
    · rw [h1]; exact hV.got
  · by_cases h1:Asg g v
    · rw [hV.old v h1]; exact h.lea v h1
    · obtain ⟨e,c⟩:=hV.new v h1 hv
      refine ⟨i,e,c,fun w hw=>?_⟩
      rcases Nat.lt_or_ge w i with h2 | h2
      · exact (h1 (h.con hw (h.done w h2))).elim
      · exact h2
  · by_cases h1:Asg g v
    · exact keep w (h.clo v w h1 ha)
    · exact hV.clo v w h1 hv ha
set_option maxHeartbeats 1000000 in
theorem groups70 {js:List Jt} {n:Nat} {R:V→Prop} (hn:n≤1000000) (hj:JsR js n) (hlen:js.length≤1000000000) (h : ∀ g,GrpP js n g→R (.lst 1 (nl g))):K0G Tryz.prog glX 70 [iv (n:Int),.lst 5 (jtl js)] R:=by
  refine K0_by hmX hcJ9 3000 Tryz.func70 (p:=need (n≤n) (need (8 * n≤140737488355328) (need (n≤9223372036854775807) (La 0 [(0:Tmp),(3:Tmp),(5:Tmp),(12:Tmp),(13:Tmp)] (WY Tryz.prog cfJ9 2994 (Env.mk (Bs.mk 0 []) 0 none 31 70 0) (cdAt [1,1,0,1,0,0] (bodyOf Tryz.f70))) (Qblk 0 (Qthen (WY Tryz.prog cfJ9 2997 (Env.mk (Bs.mk 0 []) 0 none 31 70 0) (cdAt [1,1,1] (bodyOf Tryz.f70)) (QendX Tryz.prog Tryz.f70 fun v h=>R (frzW h v))) (QendX Tryz.prog Tryz.f70 fun v h=>R (frzW h v)))) (St.mk (mkT [(0,iv (↑n:Int)),(3,V.ptr (Id.p 0) 0 0),(5,V.ptr (Id.p 1) 0 0),(12,iv (↑n:Int)),(13,iv (0:Int))]) (Hp.mk [(0,O.rows 1 false [[V.lst 5 (jtl js)]]),(1,O.rows 1 false [[V.sl (Id.p 2) 0 n]]),(2,O.rows 1 true (List.replicate n [iv (0:Int)]))] 3 [])))))) (by kernel_rfl) ?_
  refine need_mk ⟨Nat.le_refl _,need_mk ⟨by omega,need_mk ⟨by omega,?_⟩⟩⟩
  refine La.of (σ:=Nat) (fun i=>sh70a js n (List.replicate i [iv (-1)]++List.replicate (n - i) [iv 0]) i) (fun i=>i≤n) (fun i=>n - i) 0 (by kernel_rfl) (by omega) ?_
  rintro i g1 J hJ
  obtain ⟨ls,hls⟩ : ∃ ls,ls=List.replicate i [iv (-1)]++List.replicate (n - i) [iv 0]:=⟨_,rfl⟩
  rw [← hls]
  refine see (p:=ifB (decide ((↑i:Int)<(↑n:Int))) (need (i<n) (onSome ls[0+i]? fun row=>guardB ((0+1).ble row.length) (J (St.mk (mkT [(0,iv (↑n:Int)),(3,V.ptr (Id.p 0) 0 0),(5,V.ptr (Id.p 1) 0 0),(12,iv (↑n:Int)),(13,iv (IntKind.i64.wrap ((↑i:Int)+(1:Int))))]) (Hp.mk [(0,O.rows 1 false [[V.lst 5 (jtl js)]]),(1,O.rows 1 false [[V.sl (Id.p 2) 0 n]]),(2,O.rows 1 true (ls.set (0+i) (iv (-1:Int)::(List.append []) (List.drop 1 row))))] 3 []))))) (La 0 [(5:Tmp),(7:Tmp),(21:Tmp),(22:Tmp)] (WY Tryz.prog cfJ9 2991 (Env.mk (Bs.mk 0 []) 0 none 31 70 2) (cdAt [1,1,1,1,1,0,1,0,0] (bodyOf Tryz.f70))) (Qblk 2 (Qthen (WY Tryz.prog cfJ9 2994 (Env.mk (Bs.mk 0 []) 0 none 31 70 0) (cdAt [1,1,1,1,1,1] (bodyOf Tryz.f70)) (QendX Tryz.prog Tryz.f70 fun v h=>R (frzW h v))) (QendX Tryz.prog Tryz.f70 fun v h=>R (frzW h v)))) (St.mk (mkT [(5,V.ptr (Id.p 0) 0 0),(7,V.ptr (Id.p 2) 0 0),(21,iv (↑n:Int)),(22,iv (0:Int))]) (Hp.mk [(0,O.rows 1 false [[V.sl (Id.p 1) 0 n]]),(1,O.rows 1 true ls),(2,O.rows 1 false [[V.fn (Fn.func 120) [] [V.ptr (Id.p 0) 0 0,V.ptr (Id.p 3) 0 0,V.ptr (Id.p 2) 0 0]]]),(3,O.rows 1 false [[V.lst 5 (jtl js)]])] 4 [])))) (by kernel_rfl) ?_
  refine ifB_mk (fun d=>?_) (fun d=>?_)
  · have hi:i<n:=by have:=of_decide_eq_true d; omega
    refine need_mk ⟨hi,onSome_mk (x:=[iv 0]) ?_ (guardB_mk rfl ?_)⟩
    · rw [hls,Nat.zero_add,List.getElem?_append_right (by simp),List.length_replicate,Nat.sub_self,List.getElem?_replicate,if_pos (by omega)]
    · rw [wr1i hi (by omega)]
      have e:ls.set (0+i) (iv (-1:Int)::(List.append []) (List.drop 1 [iv 0]))=List.replicate (i+1) [iv (-1)]++List.replicate (n - (i+1)) [iv 0]:=by
        rw [hls,Nat.zero_add,set_rep (by simp) hi,List.replicate_succ' (n:=i)]
        rfl
      refine (congrArg J ?_).mp (hJ (i+1) hi (by omega))
      rw [← e]
      rfl
  · have hi:i=n:=by have:=of_decide_eq_false d; omega
    have e:ls=nl (List.replicate n (-1)):=by
      rw [hls,hi,Nat.sub_self]
      simp [nl]
    rw [e]
    have g0 : ∀ v,gat (List.replicate n (-1)) v = -1:=fun v=>by
      unfold gat
      rw [List.getD_eq_getElem?_getD,List.getElem?_replicate]
      split <;> rfl
    refine La.of (σ:=Nat×List Int) (fun t=>sh70b js n (nl t.2) t.1) (fun t=>t.1≤n∧GInv js n t.1 t.2) (fun t=>n - t.1) (0,List.replicate n (-1)) (by kernel_rfl) ⟨by simp only; omega,⟨by simp,fun v hv=>by omega,fun v hv=>(hv (g0 v)).elim,fun v w hv=>(hv (g0 v)).elim⟩⟩ ?_
    rintro ⟨i,g⟩ ⟨g1,hG⟩ J hJ
    simp only at g1 hG
    obtain ⟨ls,hls⟩ : ∃ ls,ls=nl g:=⟨_,rfl⟩
    rw [← hls]
    refine see (p:=ifB (decide ((↑i:Int)<(↑n:Int))) (KM Tryz.prog glX 120 [iv (↑i:Int),iv (↑i:Int),V.ptr (Id.p 0) 0 0,V.ptr (Id.p 2) 0 0,V.ptr (Id.p 3) 0 0] (Hp.mk [(0,O.rows 1 false [[V.sl (Id.p 1) 0 n]]),(1,O.rows 1 true ls),(2,O.rows 1 false [[V.lst 5 (jtl js)]]),(3,O.rows 1 false [[V.fn (Fn.func (120:FuncId)) [] [V.ptr (Id.p 0) 0 0,V.ptr (Id.p 2) 0 0,V.ptr (Id.p 3) 0 0]]])] 4 []) (poJ9 120 [iv (↑i:Int),iv (↑i:Int),V.ptr (Id.p 0) 0 0,V.ptr (Id.p 3) 0 0,V.ptr (Id.p 2) 0 0]) fun v us=>onTup v fun vs=>onNil vs (J (St.mk (mkT [(5,V.ptr (Id.p 0) 0 0),(7,V.ptr (Id.p 2) 0 0),(21,iv (↑n:Int)),(22,iv (IntKind.i64.wrap ((↑i:Int)+(1:Int))))]) (Hp.mk [(0,O.rows 1 false [[V.sl (Id.p 1) 0 n]]),(1,O.rows 1 true (List.getD us 0 [])),(2,O.rows 1 false [[V.fn (Fn.func (120:FuncId)) [] [V.ptr (Id.p 0) 0 0,V.ptr (Id.p 3) 0 0,V.ptr (Id.p 2) 0 0]]]),(3,O.rows 1 false [[V.lst 5 (jtl js)]])] 4 [])))) (R (V.lst 1 (sub ls 0 n)))) (by kernel_rfl) ?_
    rw [hls]
    refine ifB_mk (fun d=>?_) (fun d=>?_)
    · have hi:i<n:=by have:=of_decide_eq_true d; omega
      refine visit120 hj hlen _ i g rfl hG.len hi (fun g' hV=>onTup_tup (onNil_nil ?_))
      rw [wr1i hi (by omega)]
      exact hJ (i+1,g') ⟨hi,hG.step hV⟩ (by simp only; omega)
    · have hi:i=n:=by have:=of_decide_eq_false d; omega
      have e:sub (nl g) 0 n=nl g:=by rw [← hG.len,← nl_length,sub,List.drop_zero,List.take_length]
      rw [e]
      refine h g ⟨hG.len,fun v hv=>?_⟩
      obtain ⟨u,h1,h2,h3⟩:=hG.lea v (hG.done v (by omega))
      exact ⟨u,h1,h3 v (.refl v),h2,h3⟩
theorem jnt_ok {l:List Bdy}:JsR (jnt l) l.length:=by
  intro j hj
  unfold jnt jnS at hj
  obtain ⟨i,hi,hj⟩:=List.mem_flatMap.1 hj
  split at hj
  · rw [List.mem_singleton.1 hj]
    have hi:=List.mem_range.1 hi
    have hm:at_ (lnk l) i∈owL (lnk l) i:=List.mem_filter.2 ⟨mem_at (at_get hi),by simp⟩
    have hh:(owL (lnk l) i).headD lk0∈owL (lnk l) i:=by
      cases ho:owL (lnk l) i with
      | nil=>rw [ho] at hm; simp at hm
      | cons x L=>simp
    obtain ⟨a,b,i', j', k,o,h1,h2,h3,h4,h5,h6⟩:=mem_lnk.1 (List.mem_filter.1 hh).1
    show (0≤((owL (lnk l) i).headD lk0).1∧((owL (lnk l) i).headD lk0).1.toNat<l.length)∧0≤((owL (lnk l) i).headD lk0).2.1∧((owL (lnk l) i).headD lk0).2.1.toNat<l.length
    rw [h6]
    simp only
    omega
  · simp at hj
theorem ri_nil5 {F:Nat→Prop} {w:World} {x:Value} (hx:ri F w (.lst 0 []) x):ri F w (.lst 5 []) x:=by simpa [ri,riRows] using hx
theorem lnk_few {l:List Bdy} (hB:BodOK l) (h48 : ∀ b∈l,b.2.length≤60):(lnk l).length≤1000000000:=by
  have hk : ∀ a,(knobsAt l a).length≤60:=fun a=>by
    unfold knobsAt
    cases hb:l[a]? with
    | none=>simp
    | some x=>exact h48 x (mem_at hb)
  have:=fm_len (f:=fun a=>(List.range l.length).flatMap fun b=>if a<b then (knobsAt l a).zipIdx.flatMap fun o=>lko o.1 (a:Int) (b:Int) (o.2:Int) (knobsAt l b) else []) (c:=40 * 3600) (l:=List.range l.length) (fun a _=>by
    have:=fm_len (f:=fun b=>if a<b then (knobsAt l a).zipIdx.flatMap fun o=>lko o.1 (a:Int) (b:Int) (o.2:Int) (knobsAt l b) else []) (c:=3600) (l:=List.range l.length) (fun b _=>by
      split
      · have:=fm_len (f:=fun o:Kn×Nat=>lko o.1 (a:Int) (b:Int) (o.2:Int) (knobsAt l b)) (c:=60) (l:=(knobsAt l a).zipIdx) (fun o _=>Nat.le_trans (lko_len ..) (hk b))
        rw [List.length_zipIdx] at this
        have:=hk a
        omega
      · simp)
    rw [List.length_range] at this
    have:=Nat.mul_le_mul_right 3600 hB.n40
    omega)
  rw [List.length_range] at this
  have h2:=Nat.mul_le_mul_right (40 * 3600) hB.n40
  unfold lnk
  omega
theorem bods60 {l:List Kd} {m:List Bk} (hl : ∀ q∈l,KdR q) (hr : ∀ b∈m,BkR b) (hA:AskM l m) : ∀ b∈bods l m,b.2.length≤60:=by
  intro b hb
  obtain ⟨c,hc,rfl⟩:=List.mem_map.1 hb
  obtain ⟨hP,_,_,_⟩:=putK hA.kinds hl (hA.all c hc) (hr c hc)
  show (knb _ _ _).length≤60
  rw [knb_length]
  exact hP.put.2.2.2
theorem bods_length (l:List Kd) (m:List Bk):(bods l m).length=m.length:=by simp [bods]
theorem jnt_few {l:List Bdy} (h:(lnk l).length≤1000000000):(jnt l).length≤1000000000:=Nat.le_trans (jnS_len ..) h
theorem groups35 {l:List Kd} {m:List Bk} {R:V→Prop} (hl : ∀ q∈l,KdR q) (hll:(l.length:Int)≤1000000) (hml:m.length≤1000000) (hr : ∀ b∈m,BkR b) (h1 : ∀ e,errM l m e→e≠0→R (.tup [nilS,iv e])) (h2:OkM l m → ∀ g,GrpP (jnt (bods l m)) m.length g→R (.tup [.lst 1 (nl g),iv 0])):K0G Tryz.prog glX 35 [.lst 3 (kdl l),.agg [.lst 6 (bkl m)]] R:=by
  refine K0_by hmX hcJ9 3000 Tryz.func35 (p:=K0G Tryz.prog glX 64 [V.lst 3 (kdl l),V.agg [V.lst 6 (bkl m)]] fun v=>onTup v fun vs=>onCons vs fun u r=>onLst u fun s es=>onCons r fun u r=>onIntK IntKind.i64 u fun n=>onNil r (ifB (n != (0:Int)) (R (V.tup [nilS,iv n])) (K0G Tryz.prog glX 68 [V.lst s es] fun v=>onLst v fun s es_1=>K0G Tryz.prog glX 70 [iv (↑es.length:Int),V.lst s es_1] fun v=>onLst v fun s es=>R (V.tup [V.lst s es,iv (0:Int)])))) (by kernel_rfl) ?_
  refine valid64 hl hll hml hr (fun e he hne=>⟨onTup_tup (onCons_cons (onLst_nil (onCons_cons (onIntK_iv (onNil_nil (ifB_t (by simpa using hne) (h1 e he hne))))))),onTup_tup (onCons_cons (onLst_lst (onCons_cons (onIntK_iv (onNil_nil (ifB_t (by simpa using hne) (h1 e he hne)))))))⟩) (fun hA=>?_)
  refine onTup_tup (onCons_cons (onLst_lst (onCons_cons (onIntK_iv (onNil_nil (ifB_f rfl ?_))))))
  have hB:=bod_ok hl hr hA.ask
  have hf:=lnk_few hB (bods60 hl hr hA.ask)
  have hjs:JsR (jnt (bods l m)) m.length:=by have:=@jnt_ok (bods l m); rw [bods_length] at this; exact this
  have hm40:=hA.ask.few
  rw [bdl_length,bods_length]
  refine joints68 hB hf (fun e=>onLst_nil ?_) (onLst_lst (groups70 (by omega) hjs (jnt_few hf) (fun g hg=>onLst_lst (h2 hA g hg))))
  refine K0_args (args:=[iv (m.length:Int),.lst 5 (jtl [])]) (groups70 (js:=[]) (by omega) (fun j hj=>(by cases hj)) (by simp) (fun g hg=>onLst_lst (h2 hA g (e ▸ hg)))) (fun F w xs hx=>?_)
  simp only [riL] at hx ⊢
  obtain ⟨x,r,e1,h1,y,r', e2,h2,h3⟩:=hx
  exact ⟨x,r,e1,h1,y,r', e2,ri_nil5 h2,h3⟩
end Go.Proofs.YtbionhgjgcpogaaGreatDoor
namespace Go.Proofs.YtbionhgjgcpogaaGreatDoor
open Go Go.Proofs.YtbionhgjgcpogaaGreatDoor.Clean
set_option linter.unusedVariables false
set_option maxRecDepth 100000
def clX (g:FuncId):Bool := !(inN [104,110,129,132,135,145,146,147,148,150,151,152,153,157,158,159,161,162,163,164,166,167,168,170,171,172,173,174,176,179,182,120,94] g)
abbrev KFX (f:Fact):Prop:=K0G Tryz.prog glX f.g f.args fun v=>v=f.r
end Go.Proofs.YtbionhgjgcpogaaGreatDoor
