/- A part of the proof. -/
import Derived.Test.YtmddjopahcbefaaProg
import Derived.Test.YtmddjopahcbefaaXW6G9
namespace Go.Proofs.Ytmddjopahcbefaa
open Go Go.Proofs.Ytmddjopahcbefaa.Clean
set_option linter.unusedVariables false
set_option linter.unusedSimpArgs false
set_option maxRecDepth 10000
theorem hcI:cfI.ok Try.prog:=⟨hcM.c0,hcM.known⟩
theorem K0_args {P:Program} {G:Nat→Option (List V)} {f:FuncId} {args args' : List V} {R:V→Prop} (h:K0G P G f args R) (hr : ∀ F w xs,riL F w args' xs→riL F w args xs):K0G P G f args' R:=fun F w xs g1 g2 g3=>h F w xs g1 g2 (hr F w xs g3)
theorem riL_d {F:Nat→Prop} {w:World} {d:Nat} {l:List It} {r:List V} {xs:List Value} (h:d=3∨l=[]) (hx:riL F w (.lst d (itl l)::r) xs):riL F w (.lst 3 (itl l)::r) xs:=by
 rcases h with rfl | rfl
 ·exact hx
 ·simpa [riL,ri,itl,riRows] using hx
theorem pll_get {w:List (List It)} {i:Nat} {l:List It} {k:Nat→List (List V)→Prop} (h:w[i]? = some l) (hk:k 3 (itl l)):onSome (pll w)[i]? fun row=>onSome row[0]? fun v=>onLst v fun s es=>k s es:=onSome_mk (by simp [pll,h]:(pll w)[i]? = some [.lst 3 (itl l)]) hk
theorem iel {l:List Int} {i:Nat} {x:Int} {k:Int→Prop} (h:l[i]? = some x) (hk:k x):onSome (nl l)[i]? fun row=>onSome row[0]? fun v=>onIntK IntKind.i64 v fun n=>k n:=onSome_mk (by simp [nl,h]:(nl l)[i]? = some [iv x]) hk
theorem nel {l:List Nat} {i:Nat} {x:Nat} {k:Int→Prop} (h:l[i]? = some x) (hk:k x):onSome (nn l)[i]? fun row=>onSome row[0]? fun v=>onIntK IntKind.i64 v fun n=>k n:=onSome_mk (by simp [nn,h]:(nn l)[i]? = some [iv (x:Int)]) hk
theorem onNat_c {m:Nat} {k:Nat→Prop} (h:k m):onNat (m:Int) k:=onNat_mk rfl h
def isL (v:V) (d:Nat) (es:List (List V)):Prop:=(v=nilS∧d=0∧es=[])∨v = .lst d es
theorem onLst_isL {v:V} {d:Nat} {es:List (List V)} {k:Nat→List (List V)→Prop} (h:isL v d es) (hk:k d es):onLst v k:=by
 rcases h with ⟨rfl,rfl,rfl⟩ | rfl
 ·exact onLst_nil hk
 ·exact onLst_lst hk
theorem lsN_isL (l:List Nat) : ∃ d,(d=1∨l=[])∧isL (lsN l) d (nn l):=by cases l with | nil=>exact ⟨0,.inr rfl,.inl ⟨rfl,rfl,rfl⟩⟩ | cons x r=>exact ⟨1,.inl rfl,.inr rfl⟩
theorem lsI_isL (l:List It) : ∃ d,(d=3∨l=[])∧isL (lsI l) d (itl l):=by cases l with | nil=>exact ⟨0,.inr rfl,.inl ⟨rfl,rfl,rfl⟩⟩ | cons x r=>exact ⟨3,.inl rfl,.inr rfl⟩
theorem clone122 {bx:List It} {R:V→Prop} (hl:bx.length≤1000000) (h : ∀ v d,isL v d (itl bx)→(d=3∨bx=[])→R v):K0G Try.prog glX 135 [.lst 3 (itl bx)] R:=by
 refine K0_of_WY0 hmX hcM 300 Try.func135 (see (p:=nilN (itl bx).length fun b=>ifB b (R nilS) (need ((0+(itl bx).length) * 24≤140737488355328) (R (V.lst 3 (sub ([]++itl bx) 0 (0+(itl bx).length)))))) (by kernel_rfl) ?_)
 have hR:R (V.lst 3 (sub ([]++itl bx) 0 (0+(itl bx).length))):=by rw [List.nil_append,Nat.zero_add,sub_all]; exact h _ 3 (.inr rfl) (.inl rfl)
 have hn:(0+(itl bx).length) * 24≤140737488355328:=by rw [itl_length]; omega
 refine nilN_mk (fun hz=>ifB_mk (fun _=>?_) (fun hb=>by cases hb)) (ifB_mk (fun hb=>by cases hb) (fun _=>need_mk ⟨hn,hR⟩))
 have hb:bx=[]:=by rw [itl_length] at hz; exact List.eq_nil_of_length_eq_zero hz
 exact h _ 0 (.inl ⟨rfl,rfl,by rw [hb]; rfl⟩) (.inr hb)
def choF (plans:List (List It)) (vals:List Int):List Nat→Int→List It→Option (Int×List It)
 | [],v,l=>some (v,l)
 | i::q,v,l=>match restF l (plans.getD i []) with
  | some (m,[])=>choF plans vals q (v+vals.getD i 0) m
  | _=>none
def choV (s:Nat) (d:Nat):Option (Int×List It)→V
 | none => .tup [.agg [sv 0,iv 0,nilS],bv false]
 | some (v,l) => .tup [.agg [sv s,iv v,.lst d (itl l)],bv true]
def Plok (plans:List (List It)):Prop := ∀ p∈plans, ∀ x∈p,Nok x
def Vaok (vals:List Int):Prop := ∀ v∈vals,0≤v∧v≤1000000
theorem keepF_ok {x:It} {n:Int} (h:n≤1000000) : ∀ y∈keepF x n,Nok y:=by
 unfold keepF
 split
 ·intro y hy
  simp only [List.mem_singleton] at hy
  subst hy
  exact ⟨by simp only; omega,h⟩
 ·intro y hy; cases hy
theorem restF_ok : ∀ {a o l p:List It},(∀ x∈a,Nok x)→(∀ x∈o,Nok x)→restF a o=some (l,p)→(∀ x∈l,Nok x)∧l.length≤a.length
 | [],o,l,p,ha,ho,h=>by simp only [restF,Option.some.injEq,Prod.mk.injEq] at h; obtain ⟨rfl,rfl⟩:=h; simp
 | x::a,o,l,p,ha,ho,h=>by
  simp only [restF] at h
  have hx:=takeF_ok (ha x (by simp)) ho
  split at h
  ·cases h
  ·cases hr:restF a (takeF x o).2 with
   | none=>rw [hr] at h; cases h
   | some q =>
    rw [hr] at h
    simp only [Option.map_some,Option.some.injEq,Prod.mk.injEq] at h
    obtain ⟨rfl,rfl⟩:=h
    obtain ⟨g1,g2⟩:=restF_ok (fun y hy=>ha y (by simp [hy])) hx.2.2 (show restF a (takeF x o).2=some (q.1,q.2) from hr)
    refine ⟨fun y hy=>?_,?_⟩
    ·rcases List.mem_append.1 hy with hy | hy
     ·exact keepF_ok hx.2.1 y hy
     ·exact g1 y hy
    ·have:(keepF x (takeF x o).1).length≤1:=by unfold keepF; split <;> simp
     simp only [List.length_append,List.length_cons]
     omega
theorem getPl {plans:List (List It)} {i:Nat} (h:i<plans.length):plans[i]? = some (plans.getD i []):=by simp [List.getD,h]
theorem getVa {l:List Int} {i:Nat} (h:i<l.length):l[i]? = some (l.getD i 0):=by simp [List.getD,h]
theorem bl8_len (s:Nat):(bl8 s).length≤8:=by
 have:=List.length_filter_le (fun i=>s.testBit i) (List.range 8)
 simpa [bl8] using this
theorem choose98 {bx:List It} {plans:List (List It)} {vals:List Int} {s:Nat} {R:V→Prop} (hs:s<256) (hbx : ∀ x∈bx,Nok x) (hlb:bx.length≤1000000) (hp:Plok plans) (hva:Vaok vals) (hlv:vals.length=plans.length) (hin : ∀ i∈bl8 s,i<plans.length)
  (h : ∀ d,(d=3 ∨ ∃ v,choF plans vals (bl8 s) 0 bx=some (v,[]))→R (choV s d (choF plans vals (bl8 s) 0 bx))):K0G Try.prog glX 114 [.lst 3 (itl bx),.lst 1 (pll plans),.lst 1 (nl vals),sv s] R:=by
 refine K0_of_WY0 hmX hcM 3000 Try.func114 (see (p:=K0G Try.prog glX 135 [V.lst 3 (itl bx)] fun v=>onLst v fun s_1 es=>K0G Try.prog glX 72 [V.raw (Value.int IntKind.u8 (↑s:Int))] fun v=>onLst v fun s_2 es_1=>La 0 [(1:Tmp),(2:Tmp),(8:Tmp),(10:Tmp),(20:Tmp),(21:Tmp),(22:Tmp)] (WY Try.prog cfM 2994 (Env.mk (Bs.mk 0 []) 0 none 51 114 0) (cdAt [1,1,0,1,0,0] (bodyOf Try.f114))) (Qblk 0 (Qthen (WY Try.prog cfM 2997 (Env.mk (Bs.mk 0 []) 0 none 51 114 0) (cdAt [1,1,1] (bodyOf Try.f114)) (QendX Try.prog Try.f114 fun v h=>R (frzW h v))) (QendX Try.prog Try.f114 fun v h=>R (frzW h v)))) (St.mk (mkT [(1,V.lst 1 (pll plans)),(2,V.lst 1 (nl vals)),(8,V.ptr (Id.p 0) 0 0),(10,V.ptr (Id.p 1) 0 0),(20,V.lst s_2 es_1),(21,iv (↑es_1.length:Int)),(22,iv (0:Int))]) (Hp.mk [(0,O.rows 3 false [[V.raw (Value.int IntKind.u8 (0:Int)),iv (0:Int),nilS]]),(1,O.rows 3 false [[V.raw (Value.int IntKind.u8 (↑s:Int)),iv (0:Int),V.lst s_1 es]])] 2 []))) (by kernel_rfl) ?_)
 refine clone122 hlb (fun v0 d0 hv0 hd0=>onLst_isL hv0 ?_)
 obtain ⟨d1,hd1,hN⟩:=lsN_isL (bl8 s)
 refine list90 hs (onLst_isL hN ?_)
 have hq8:=bl8_len s
 generalize hq:bl8 s=q at h hin hq8 hd1
 refine La.of (σ:=Int×List It×Nat×Nat) (fun x=>sh98 plans vals d1 (nn q) s x.1 (itl x.2.1) x.2.2.1 x.2.2.2) (fun x=>(∀ y∈x.2.1,Nok y)∧x.2.1.length≤1000000∧(x.2.2.1=3∨x.2.1=[])∧x.2.2.2≤q.length∧0≤x.1∧x.1≤(x.2.2.2:Int) * 1000000∧choF plans vals q 0 bx=choF plans vals (q.drop x.2.2.2) x.1 x.2.1) (fun x=>q.length - x.2.2.2) (0,bx,d0,0) (by kernel_rfl) ⟨hbx,hlb,hd0,by simp,by simp,by simp,by simp⟩ ?_
 rintro ⟨v,l,d,k⟩ ⟨h1,h2,h3,h4,h5,h6,h7⟩ J hJ
 simp only at h1 h2 h3 h4 h5 h6 h7
 refine see (p:=ifB (decide ((↑k:Int)<(↑(nn q).length:Int))) (need (d1=1) (onSome (nn q)[k]? fun row=>onSome row[0]? fun v_1=>onIntK IntKind.i64 v_1 fun n=>onNat n fun m=>onSome (pll plans)[m]? fun row=>onSome row[0]? fun v_2=>onLst v_2 fun s_2 es=>K0G Try.prog glX 41 [V.lst d (itl l),V.lst s_2 es] fun v_3=>onTup v_3 fun vs=>onCons vs fun u r=>onLst u fun s_3 es=>onCons r fun u r=>onBool u fun b=>onNil r (ifB (!b) (R (V.tup [V.agg [V.raw (Value.int IntKind.u8 (0:Int)),iv (0:Int),nilS],bv false])) (onNat n fun m=>onSome (nl vals)[m]? fun row=>onSome row[0]? fun v_4=>onIntK IntKind.i64 v_4 fun n=>J (St.mk (mkT [(1,V.lst 1 (pll plans)),(2,V.lst 1 (nl vals)),(8,V.ptr (Id.p 0) 0 0),(10,V.ptr (Id.p 1) 0 0),(20,V.lst d1 (nn q)),(21,iv (↑(nn q).length:Int)),(22,iv (IntKind.i64.wrap ((↑k:Int)+(1:Int))))]) (Hp.mk [(0,O.rows 3 false [[V.raw (Value.int IntKind.u8 (0:Int)),iv (0:Int),nilS]]),(1,O.rows 3 false [[V.raw (Value.int IntKind.u8 (↑s:Int)),iv (IntKind.i64.wrap (v+n)),V.lst s_3 es]])] 2 [])))))) (R (V.tup [V.agg [V.raw (Value.int IntKind.u8 (↑s:Int)),iv v,V.lst d (itl l)],bv true]))) (by kernel_rfl) ?_
 rw [nn_length]
 refine ifB_mk (fun hb=>?_) (fun hb=>?_)
 ·have hlt:k<q.length:=by have:=of_decide_eq_true hb; omega
  obtain ⟨i,hi⟩ : ∃ i,q[k]? = some i:=⟨q[k],by simp [hlt]⟩
  have hip:i<plans.length:=hin i (List.mem_of_getElem? hi)
  have hd:q.drop k=i::q.drop (k+1):=by
   rw [List.drop_eq_getElem_cons hlt]; congr 1; simpa [hlt] using hi
  rw [hd] at h7
  simp only [choF] at h7
  refine need_mk ⟨hd1.resolve_right (by rintro rfl; simp at hlt),?_⟩
  refine nel hi ?_
  refine onNat_c (pll_get (getPl hip) ?_)
  have hpi : ∀ x∈plans.getD i [],Nok x:=hp _ (List.mem_of_getElem? (getPl hip))
  refine K0_args (rest43 h1 hpi h2 ?_) (fun F w xs hx=>riL_d h3 hx)
  cases hr:restF l (plans.getD i []) with
  | none =>
   rw [hr] at h7
   have g:=h 3 (.inl rfl)
   rw [h7] at g
   exact onTup_tup (onCons_cons (onLst_nil (onCons_cons (onBool_bv (onNil_nil (ifB_t rfl g))))))
  | some p =>
   obtain ⟨m,o⟩:=p
   rw [hr] at h7
   obtain ⟨d', hd', hN'⟩:=lsI_isL m
   refine onTup_tup (onCons_cons (onLst_isL hN' (onCons_cons (onBool_bv (onNil_nil ?_)))))
   cases o with
   | cons y o =>
    simp only at h7
    have g:=h 3 (.inl rfl)
    rw [h7] at g
    exact ifB_t rfl g
   | nil =>
    simp only at h7
    refine ifB_f rfl (onNat_c (iel (getVa (by omega)) ?_))
    obtain ⟨m1,m2⟩:=restF_ok h1 hpi hr
    have hv:=hva _ (List.mem_of_getElem? (getVa (l:=vals) (i:=i) (by omega)))
    rw [wr1i hlt (by omega),wr (by omega) (by omega)]
    refine hJ' ?_ (hJ (v+vals.getD i 0,m,d', k+1) ⟨m1,by simp only; omega,hd', by simp only; omega,by simp only; omega,by simp only; omega,h7⟩ (by simp only; omega))
    simp [sh98,nn_length,sv,u8v]
 ·have hk:q.drop k=[]:=List.drop_eq_nil_of_le (by have:=of_decide_eq_false hb; omega)
  rw [hk] at h7
  simp only [choF] at h7
  have g:=h d (by rw [h7]; rcases h3 with h3 | rfl; exact .inl h3; exact .inr ⟨v,rfl⟩)
  rw [h7] at g
  exact g
def erC (c:Ch):Nat×Int×List It:=(c.1,c.2.1,c.2.2.1)
def choS (bx:List It) (plans:List (List It)) (vals:List Int) (N:Nat):List (Nat×Int×List It):=(List.range N).filterMap fun s=>(choF plans vals (bl8 s) 0 bx).map fun p=>(s,p.1,p.2)
theorem choS_succ (bx:List It) (plans:List (List It)) (vals:List Int) (N:Nat):choS bx plans vals (N+1)=choS bx plans vals N++((choF plans vals (bl8 N) 0 bx).map fun p=>(N,p.1,p.2)).toList:=by
 unfold choS
 rw [List.range_succ,List.filterMap_append]
 congr 1
theorem u8w : ∀ s,s<256→IntKind.u8.wrap ((s:Nat):Int)=((s:Nat):Int):=by decide +kernel
theorem pow64 : ∀ n,n<9→IntKind.i64.wrap ((1:Int) * (2:Int) ^ min ((n:Nat):Int).toNat 64)=((2 ^ n:Nat):Int):=by decide +kernel
theorem pll_length (w:List (List It)):(pll w).length=w.length:=by simp [pll]
theorem chl_length (l:List Ch):(chl l).length=l.length:=by simp [chl]
theorem chl_take (l:List Ch):List.take l.length (chl l)=chl l:=by rw [← chl_length]; exact List.take_length
theorem sh51_b {bx:List It} {plans:List (List It)} {vals:List Int} {N i:Nat} {cs:List Ch} (h:cs≠[]):sh51 bx plans vals N (i,cs)=sh51b bx plans vals N i cs:=by cases cs with | nil=>exact (h rfl).elim | cons x r=>rfl
theorem bl8_lt {s n i:Nat} (hs:s<2 ^ n) (h:i∈bl8 s):i<n:=by
 simp only [bl8,List.mem_filter] at h
 have:=Nat.ge_two_pow_of_testBit h.2
 exact (Nat.pow_lt_pow_iff_right (a:=2) (by omega)).1 (by omega)
theorem eq51 (bx:List It) (plans:List (List It)) (vals:List Int) (R:V→Prop):(La 6 [(0:Tmp),(5:Tmp),(6:Tmp)] (WY Try.prog cfI 2991 (Env.mk (Bs.mk 0 (spared [] [V.yl (Id.p 5),V.ptr (Id.p 4) 0 0]++[])) 6 none 15 134 0) (cdAt [1,0,0] (bodyOf Try.f134))) (Qblk 0 (QendX Try.prog Try.f134 fun v h' => kontY (WY Try.prog cfI 2994) (Env.mk (Bs.mk 0 []) 0 none 29 70 0) (Qblk 0 (Qthen (WY Try.prog cfI 2997 (Env.mk (Bs.mk 0 []) 0 none 29 70 0) (cdAt [1,1,1] (bodyOf Try.f70)) (QendX Try.prog Try.f70 fun v h=>R (frzW h v))) (QendX Try.prog Try.f70 fun v h=>R (frzW h v)))) (mkT [(0,V.lst 3 (itl bx)),(1,V.lst 1 (pll plans)),(2,V.lst 1 (nl vals)),(3,V.ptr (Id.p 0) 0 0),(4,V.ptr (Id.p 1) 0 0),(5,V.ptr (Id.p 2) 0 0),(6,nilS),(7,V.ptr (Id.p 3) 0 0),(11,V.lst 1 (pll plans)),(12,iv (↑(pll plans).length:Int)),(13,V.fn (Fn.func 134) [] [V.ptr (Id.p 4) 0 0])]) 5 v (bif cfI.clean 134 then gcH 6 v h' else h'))) (St.mk (mkT [(0,V.yl (Id.p 5)),(5,iv (IntKind.i64.wrap ((1:Int) * (2:Int) ^ min (↑(pll plans).length:Int).toNat 64))),(6,iv (0:Int))]) (Hp.mk [(5,O.lp (Lr.mk LoopState.ready none (mkT [(0,V.lst 3 (itl bx)),(1,V.lst 1 (pll plans)),(2,V.lst 1 (nl vals)),(3,V.ptr (Id.p 0) 0 0),(4,V.ptr (Id.p 1) 0 0),(5,V.ptr (Id.p 2) 0 0),(6,nilS),(7,V.ptr (Id.p 3) 0 0),(11,V.lst 1 (pll plans)),(12,iv (↑(pll plans).length:Int)),(13,V.fn (Fn.func 134) [] [V.ptr (Id.p 4) 0 0])]) 29 (Array.mk [14]) (rfA (cdAt [1,1,0,1,0] (bodyOf Try.f70))) (rfB (cdAt [1,1,0,1,0] (bodyOf Try.f70))) 70)),(4,O.rows 1 false [[iv (↑(pll plans).length:Int)]]),(3,O.rows 1 false [[nilS]]),(2,O.rows 1 false [[V.lst 1 (nl vals)]]),(1,O.rows 1 false [[V.lst 1 (pll plans)]]),(0,O.rows 1 false [[V.lst 3 (itl bx)]])] 6 [])))=WY0 Try.prog cfI 3000 70 Try.f70 [.lst 3 (itl bx),.lst 1 (pll plans),.lst 1 (nl vals)] R:=by kernel_rfl
theorem choices51 {bx:List It} {plans:List (List It)} {vals:List Int} {R:V→Prop} (hbx : ∀ x∈bx,Nok x) (hlb:bx.length≤1000000) (hp:Plok plans) (hva:Vaok vals) (hlv:vals.length=plans.length) (h8:plans.length≤8)
  (h : ∀ cs:List Ch,cs.map erC=choS bx plans vals (2 ^ plans.length)→(∀ c∈cs,c.2.2.2=3∨c.2.2.1=[])→cs≠[]→R (.lst 3 (chl cs))):K0G Try.prog glX 70 [.lst 3 (itl bx),.lst 1 (pll plans),.lst 1 (nl vals)] R:=by
 refine K0_by hmX hcI 3000 Try.func70 (eq51 bx plans vals R) ?_
 have hN:IntKind.i64.wrap ((1:Int) * (2:Int) ^ min ((pll plans).length:Int).toNat 64)=((2 ^ plans.length:Nat):Int):=by rw [pll_length]; exact pow64 _ (by omega)
 rw [hN]
 have h256:2 ^ plans.length≤256:=Nat.pow_le_pow_right (n:=2) (by omega) h8
 have h1p:1≤2 ^ plans.length:=Nat.one_le_two_pow
 generalize hNN:2 ^ plans.length=N at h h256 h1p
 refine La.of (σ:=Nat×List Ch) (fun x=>sh51 bx plans vals N x) (fun x=>x.1≤N∧x.2.length≤x.1∧x.2.map erC=choS bx plans vals x.1 ∧ ∀ c∈x.2,c.2.2.2=3∨c.2.2.1=[]) (fun x=>N - x.1) (0,[]) (by kernel_rfl) ⟨by simp,by simp,by simp [choS],by simp⟩ ?_
 rintro ⟨i,cs⟩ ⟨g1,g2,g3,g4⟩ J hJ
 simp only at g1 g2 g3 g4
 have e0:choS bx plans vals 1=[(0,0,bx)]:=by simp [choS,show bl8 0=[] by decide,choF,List.range_succ]
 have call : ∀ (Q:V→Prop),i<N→(∀ d,(d=3 ∨ ∃ v,choF plans vals (bl8 i) 0 bx=some (v,[]))→Q (choV i d (choF plans vals (bl8 i) 0 bx)))→K0G Try.prog glX 114 [V.lst 3 (itl bx),V.lst 1 (pll plans),V.lst 1 (nl vals),V.raw (Value.int IntKind.u8 (IntKind.u8.wrap (i:Int)))] Q:=by
  intro Q hi hq
  rw [u8w i (by omega)]
  exact choose98 (by omega) hbx hlb hp hva hlv (fun j hj=>bl8_lt (by rw [hNN]; exact hi) hj) hq
 have none' : i<N→choF plans vals (bl8 i) 0 bx=none→J (sh51 bx plans vals N (i+1,cs)):=fun hi hn=>hJ (i+1,cs) ⟨by simp only; omega,by simp only; omega,by simp only; rw [g3,choS_succ,hn]; simp,g4⟩ (by simp only; omega)
 have some' : i<N → ∀ v l d,choF plans vals (bl8 i) 0 bx=some (v,l)→(d=3∨l=[])→J (sh51 bx plans vals N (i+1,cs++[(i,v,l,d)])):=fun hi v l d hn hd=>hJ (i+1,cs++[(i,v,l,d)]) ⟨by simp only; omega,by simp only [List.length_append,List.length_singleton]; omega,by simp only; rw [List.map_append,g3,choS_succ,hn]; simp [erC],fun c hc=>by
  rcases List.mem_append.1 hc with hc | hc
  ·exact g4 c hc
  ·simp only [List.mem_singleton] at hc; subst hc; exact hd⟩ (by simp only; omega)
 by_cases hc:cs=[]
 ·subst hc
  refine see (p:=ifB (decide ((↑i:Int)<(↑N:Int))) (K0G Try.prog glX 114 [V.lst 3 (itl bx),V.lst 1 (pll plans),V.lst 1 (nl vals),V.raw (Value.int IntKind.u8 (IntKind.u8.wrap (↑i:Int)))] fun v=>onTup v fun vs=>onCons vs fun u r=>onAgg u fun cs=>onCons cs fun u r_1=>onIntK IntKind.u8 u fun n=>onCons r_1 fun u r_2=>onIntK IntKind.i64 u fun n_1=>onCons r_2 fun u r_3=>onLst u fun s es=>onNil r_3 (onCons r fun u r=>onBool u fun b=>onNil r (ifB b (J (St.mk (mkT [(0,V.yl (Id.p 5)),(5,iv (↑N:Int)),(6,iv (IntKind.i64.wrap ((↑i:Int)+(1:Int))))]) (Hp.mk [(5,O.lp (Lr.mk LoopState.ready none (mkT [(0,V.lst 3 (itl bx)),(1,V.lst 1 (pll plans)),(2,V.lst 1 (nl vals)),(3,V.ptr (Id.p 0) 0 0),(4,V.ptr (Id.p 1) 0 0),(5,V.ptr (Id.p 2) 0 0),(6,nilS),(7,V.ptr (Id.p 3) 0 0),(11,V.lst 1 (pll plans)),(12,iv (↑(pll plans).length:Int)),(13,V.fn (Fn.func (134:FuncId)) [] [V.ptr (Id.p 4) 0 0])]) 29 (Array.mk [14]) (rfA (cdAt [1,1,0,1,0] (bodyOf Try.f70))) (rfB (cdAt [1,1,0,1,0] (bodyOf Try.f70))) 70)),(3,O.rows 1 false [[V.sl (Id.p 6) 0 1]]),(4,O.rows 1 false [[iv (↑(pll plans).length:Int)]]),(2,O.rows 1 false [[V.lst 1 (nl vals)]]),(1,O.rows 1 false [[V.lst 1 (pll plans)]]),(0,O.rows 1 false [[V.lst 3 (itl bx)]]),(6,O.rows 3 true [[V.raw (Value.int IntKind.u8 n),iv n_1,V.lst s es]])] 7 []))) (J (St.mk (mkT [(0,V.yl (Id.p 5)),(5,iv (↑N:Int)),(6,iv (IntKind.i64.wrap ((↑i:Int)+(1:Int))))]) (Hp.mk [(5,O.lp (Lr.mk LoopState.ready none (mkT [(0,V.lst 3 (itl bx)),(1,V.lst 1 (pll plans)),(2,V.lst 1 (nl vals)),(3,V.ptr (Id.p 0) 0 0),(4,V.ptr (Id.p 1) 0 0),(5,V.ptr (Id.p 2) 0 0),(6,nilS),(7,V.ptr (Id.p 3) 0 0),(11,V.lst 1 (pll plans)),(12,iv (↑(pll plans).length:Int)),(13,V.fn (Fn.func (134:FuncId)) [] [V.ptr (Id.p 4) 0 0])]) 29 (Array.mk [14]) (rfA (cdAt [1,1,0,1,0] (bodyOf Try.f70))) (rfB (cdAt [1,1,0,1,0] (bodyOf Try.f70))) 70)),(4,O.rows 1 false [[iv (↑(pll plans).length:Int)]]),(3,O.rows 1 false [[nilS]]),(2,O.rows 1 false [[V.lst 1 (nl vals)]]),(1,O.rows 1 false [[V.lst 1 (pll plans)]]),(0,O.rows 1 false [[V.lst 3 (itl bx)]])] 6 [])))))) (R nilS)) (by kernel_rfl) ?_
  refine ifB_mk (fun hb=>?_) (fun hb=>?_)
  ·have hi:i<N:=by have:=of_decide_eq_true hb; omega
   refine call _ hi (fun d hd=>?_)
   rw [wr1i hi (by omega)]
   cases ho:choF plans vals (bl8 i) 0 bx with
   | none =>
    refine onTup_tup (onCons_cons (onAgg_agg (onCons_cons (onIntK_u8 (onCons_cons (onIntK_iv (onCons_cons (onLst_nil (onNil_nil (onCons_cons (onBool_bv (onNil_nil (ifB_f rfl ?_)))))))))))))
    exact hJ' (by simp [sh51,sh51a,rec51]) (none' hi ho)
   | some p =>
    obtain ⟨v,l⟩:=p
    refine onTup_tup (onCons_cons (onAgg_agg (onCons_cons (onIntK_u8 (onCons_cons (onIntK_iv (onCons_cons (onLst_lst (onNil_nil (onCons_cons (onBool_bv (onNil_nil (ifB_t rfl ?_)))))))))))))
    have hd' : d=3∨l=[]:=by rcases hd with hd | ⟨v', hv'⟩; exact .inl hd; rw [ho] at hv'; simp at hv'; exact .inr hv'.2
    exact hJ' (by simp [sh51,sh51b,rec51,chl,chr,sv,u8v]) (some' hi v l d ho hd')
  ·have hi:i=N:=by have:=of_decide_eq_false hb; omega
   subst hi
   exfalso
   have:(choS bx plans vals i).length=0:=by rw [← g3]; rfl
   obtain ⟨m,rfl⟩ : ∃ m,i=1+m:=⟨i - 1,by omega⟩
   have hmem:(0,0,bx)∈choS bx plans vals (1+m):=by
    simp only [choS,List.mem_filterMap,List.mem_range]
    exact ⟨0,by omega,by simp [show bl8 0=[] by decide,choF]⟩
   rw [List.eq_nil_of_length_eq_zero this] at hmem
   cases hmem
 ·rw [sh51_b hc]
  refine see (p:=ifB (decide ((↑i:Int)<(↑N:Int))) (K0G Try.prog glX 114 [V.lst 3 (itl bx),V.lst 1 (pll plans),V.lst 1 (nl vals),V.raw (Value.int IntKind.u8 (IntKind.u8.wrap (↑i:Int)))] fun v=>onTup v fun vs=>onCons vs fun u r=>onAgg u fun cs_1=>onCons cs_1 fun u r_1=>onIntK IntKind.u8 u fun n=>onCons r_1 fun u r_2=>onIntK IntKind.i64 u fun n_1=>onCons r_2 fun u r_3=>onLst u fun s es=>onNil r_3 (onCons r fun u r=>onBool u fun b=>onNil r (ifB b (need ((cs.length+1) * 40≤140737488355328) (J (St.mk (mkT [(0,V.yl (Id.p 5)),(5,iv (↑N:Int)),(6,iv (IntKind.i64.wrap ((↑i:Int)+(1:Int))))]) (Hp.mk [(5,O.lp (Lr.mk LoopState.ready none (mkT [(0,V.lst 3 (itl bx)),(1,V.lst 1 (pll plans)),(2,V.lst 1 (nl vals)),(3,V.ptr (Id.p 0) 0 0),(4,V.ptr (Id.p 1) 0 0),(5,V.ptr (Id.p 2) 0 0),(6,nilS),(7,V.ptr (Id.p 3) 0 0),(11,V.lst 1 (pll plans)),(12,iv (↑(pll plans).length:Int)),(13,V.fn (Fn.func (134:FuncId)) [] [V.ptr (Id.p 4) 0 0])]) 29 (Array.mk [14]) (rfA (cdAt [1,1,0,1,0] (bodyOf Try.f70))) (rfB (cdAt [1,1,0,1,0] (bodyOf Try.f70))) 70)),(3,O.rows 1 false [[V.sl (Id.p 6) 0 (cs.length+1)]]),(4,O.rows 1 false [[iv (↑(pll plans).length:Int)]]),(2,O.rows 1 false [[V.lst 1 (nl vals)]]),(1,O.rows 1 false [[V.lst 1 (pll plans)]]),(0,O.rows 1 false [[V.lst 3 (itl bx)]]),(6,O.rows 3 true (List.take cs.length (chl cs)++[[V.raw (Value.int IntKind.u8 n),iv n_1,V.lst s es]]))] 7 [])))) (J (St.mk (mkT [(0,V.yl (Id.p 5)),(5,iv (↑N:Int)),(6,iv (IntKind.i64.wrap ((↑i:Int)+(1:Int))))]) (Hp.mk [(5,O.lp (Lr.mk LoopState.ready none (mkT [(0,V.lst 3 (itl bx)),(1,V.lst 1 (pll plans)),(2,V.lst 1 (nl vals)),(3,V.ptr (Id.p 0) 0 0),(4,V.ptr (Id.p 1) 0 0),(5,V.ptr (Id.p 2) 0 0),(6,nilS),(7,V.ptr (Id.p 3) 0 0),(11,V.lst 1 (pll plans)),(12,iv (↑(pll plans).length:Int)),(13,V.fn (Fn.func (134:FuncId)) [] [V.ptr (Id.p 4) 0 0])]) 29 (Array.mk [14]) (rfA (cdAt [1,1,0,1,0] (bodyOf Try.f70))) (rfB (cdAt [1,1,0,1,0] (bodyOf Try.f70))) 70)),(3,O.rows 1 false [[V.sl (Id.p 6) 0 cs.length]]),(4,O.rows 1 false [[iv (↑(pll plans).length:Int)]]),(2,O.rows 1 false [[V.lst 1 (nl vals)]]),(1,O.rows 1 false [[V.lst 1 (pll plans)]]),(0,O.rows 1 false [[V.lst 3 (itl bx)]]),(6,O.rows 3 true (chl cs))] 7 [])))))) (R (V.lst 3 (sub (chl cs) 0 cs.length)))) (by kernel_rfl) ?_
  rw [chl_take]
  refine ifB_mk (fun hb=>?_) (fun hb=>?_)
  ·have hi:i<N:=by have:=of_decide_eq_true hb; omega
   refine call _ hi (fun d hd=>?_)
   rw [wr1i hi (by omega)]
   cases ho:choF plans vals (bl8 i) 0 bx with
   | none =>
    refine onTup_tup (onCons_cons (onAgg_agg (onCons_cons (onIntK_u8 (onCons_cons (onIntK_iv (onCons_cons (onLst_nil (onNil_nil (onCons_cons (onBool_bv (onNil_nil (ifB_f rfl ?_)))))))))))))
    have g:=none' hi ho
    rw [sh51_b hc] at g
    exact hJ' (by simp [sh51b,rec51]) g
   | some p =>
    obtain ⟨v,l⟩:=p
    refine onTup_tup (onCons_cons (onAgg_agg (onCons_cons (onIntK_u8 (onCons_cons (onIntK_iv (onCons_cons (onLst_lst (onNil_nil (onCons_cons (onBool_bv (onNil_nil (ifB_t rfl (need_mk ⟨by omega,?_⟩))))))))))))))
    have hd' : d=3∨l=[]:=by rcases hd with hd | ⟨v', hv'⟩; exact .inl hd; rw [ho] at hv'; simp at hv'; exact .inr hv'.2
    have g:=some' hi v l d ho hd'
    rw [sh51_b (by simp)] at g
    exact hJ' (by simp [sh51b,rec51,chl,chr,sv,u8v]) g
  ·have hi:i=N:=by have:=of_decide_eq_false hb; omega
   subst hi
   rw [← chl_length cs,sub_all]
   exact h cs g3 g4 hc
def Bef (x y:It):Prop:=x.1<y.1∨x.1=y.1∧x.2.1<y.2.1
def Ord (l:List It):Prop := ∀ (i:Nat) (x y:It),l[i]? = some x→l[i+1]? = some y→Bef x y
def Okp (x:It):Prop:=0≤x.1∧x.1≤15∧x.2.1≤15
theorem itl_get {l:List It} {i:Nat} {x:It} (h:l[i]? = some x):(itl l)[i]? = some (itm x):=by simp [itl,h]
def Stk (l:List It):Prop:=l.length≤30∧Ord l∧(∀ x∈l,Okp x) ∧ ∀ x∈l,1≤x.2.2∧x.2.2≤1000
theorem choS_mem {bx:List It} {p:List (List It)} {v:List Int} {N:Nat} {x:Nat×Int×List It}:x∈choS bx p v N↔x.1<N∧choF p v (bl8 x.1) 0 bx=some (x.2.1,x.2.2):=by
 obtain ⟨s,val,l⟩:=x
 simp only [choS,List.mem_filterMap,List.mem_range,Option.map_eq_some_iff]
 constructor
 ·rintro ⟨a,ha,⟨q1,q2⟩,hq,he⟩
  simp only [Prod.mk.injEq] at he
  obtain ⟨rfl,rfl,rfl⟩:=he
  exact ⟨ha,hq⟩
 ·rintro ⟨h1,h2⟩
  exact ⟨s,h1,_,h2,rfl⟩
theorem Stk.nok {l:List It} (h:Stk l) : ∀ x∈l,Nok x:=fun x hx=>⟨by have:=(h.2.2.2 x hx).1; omega,by have:=(h.2.2.2 x hx).2; omega⟩
def hasF:List It→Int→Int→Int
 | [],_,_=>0
 | y::r,a,b=>if y.1=a∧y.2.1=b then y.2.2 else hasF r a b
theorem hasF_ok {l:List It} (h : ∀ x∈l,0≤x.2.2∧x.2.2≤1000) (a b:Int):0≤hasF l a b∧hasF l a b≤1000:=by
 induction l with
 | nil=>simp [hasF]
 | cons y r ih =>
  simp only [hasF]
  split
  ·exact h y (by simp)
  ·exact ih (fun x hx=>h x (by simp [hx]))
def sumF:List (List It)→List Nat→Nat→It→Int
 | l::p,w::who,m,x=>(if w=m then hasF l x.1 x.2.1 else 0)+sumF p who m x
 | _,_,_,_=>0
theorem ul_get {l:List Nat} {i n:Nat} (h:l[i]? = some n):(ul l)[i]? = some [sv n]:=by simp [ul,h]
theorem Bef.trans {x y z:It} (h:Bef x y) (g:Bef y z):Bef x z:=by unfold Bef at *; omega
theorem Bef.ne {x y:It} (h:Bef x y) : ¬ (y.1=x.1∧y.2.1=x.2.1):=by unfold Bef at h; omega
theorem Ord.tail {x:It} {l:List It} (h:Ord (x::l)):Ord l:=fun i a b ha hb=>h (i+1) a b (by simpa using ha) (by simpa using hb)
theorem Ord.pair : ∀ {l:List It},Ord l→l.Pairwise Bef
 | [],_ => .nil
 | [x],_=>by simp
 | x::y::l,h=>by
  have ih:=Ord.pair h.tail
  have hxy:Bef x y:=h 0 x y rfl rfl
  refine List.Pairwise.cons (fun z hz=>?_) ih
  rcases List.mem_cons.1 hz with rfl | hz
  ·exact hxy
  ·exact hxy.trans ((List.pairwise_cons.1 ih).1 z hz)
def G (l:List It):Prop:=l.Pairwise Bef ∧ ∀ x∈l,1≤x.2.2
theorem G.tail {x:It} {l:List It} (h:G (x::l)):G l:=⟨(List.pairwise_cons.1 h.1).2,fun y hy=>h.2 y (by simp [hy])⟩
theorem G.nil:G []:=⟨.nil,by simp⟩
theorem G.pos {l:List It} (h:G l) (a b:Int):0≤hasF l a b:=by
 induction l with
 | nil=>simp [hasF]
 | cons y r ih =>
  simp only [hasF]
  split
  ·have:=h.2 y (by simp); omega
  ·exact ih h.tail
theorem has_none {l:List It} {a b:Int} (h : ∀ y∈l, ¬ (y.1=a∧y.2.1=b)):hasF l a b=0:=by
 induction l with
 | nil=>rfl
 | cons y r ih =>
  simp only [hasF]
  rw [if_neg (h y (by simp))]
  exact ih (fun z hz=>h z (by simp [hz]))
theorem G.head {x:It} {l:List It} (h:G (x::l)):hasF l x.1 x.2.1=0:=has_none fun y hy e=>((List.pairwise_cons.1 h.1).1 y hy).ne e
theorem has_mem {l:List It} {a b:Int} (h:hasF l a b≠0) : ∃ y∈l,y.1=a∧y.2.1=b:=by
 induction l with
 | nil=>exact (h rfl).elim
 | cons y r ih =>
  simp only [hasF] at h
  split at h
  ·rename_i e
   exact ⟨y,by simp,e⟩
  ·obtain ⟨z,h1,h2⟩:=ih h
   exact ⟨z,by simp [h1],h2⟩
theorem G.has {l:List It} (h:G l) {x:It} (hx:x∈l):hasF l x.1 x.2.1=x.2.2:=by
 induction l with
 | nil=>cases hx
 | cons y r ih =>
  simp only [hasF]
  rcases List.mem_cons.1 hx with rfl | hx'
  ·rw [if_pos ⟨rfl,rfl⟩]
  ·rw [if_neg (fun e=>((List.pairwise_cons.1 h.1).1 x hx').ne ⟨e.1.symm,e.2.symm⟩)]
   exact ih h.tail hx'
theorem has_cons (x:It) (l:List It) (a b:Int):hasF (x::l) a b=if x.1=a∧x.2.1=b then x.2.2 else hasF l a b:=rfl
def allF (l:List It):Int:=(l.map fun x=>x.2.2).sum
theorem rest_G : ∀ {l o m p:List It},G l→G o→restF l o=some (m,p)→G m∧(∀ z∈m, ∃ w∈l,w.1=z.1∧w.2.1=z.2.1)∧allF m≤allF l∧G p
 | [],o,m,p,hl,ho,h=>by simp only [restF,Option.some.injEq,Prod.mk.injEq] at h; obtain ⟨rfl,rfl⟩:=h; exact ⟨G.nil,by simp,Int.le_refl _,ho⟩
 | x::l,o,m,p,hl,ho,h=>by
  have hx:=hl.2 x (by simp)
  have ht:G (takeF x o).2∧(takeF x o).1≤x.2.2:=by
   cases o with
   | nil=>exact ⟨G.nil,Int.le_refl _⟩
   | cons y o =>
    by_cases hc:y.1=x.1∧y.2.1=x.2.1
    ·rw [show takeF x (y::o)=(x.2.2 - y.2.2,o) from if_pos hc]
     have:=ho.2 y (by simp)
     exact ⟨ho.tail,by simp only; omega⟩
    ·rw [show takeF x (y::o)=(x.2.2,y::o) from if_neg hc]
     exact ⟨ho,Int.le_refl _⟩
  simp only [restF] at h
  generalize takeF x o=t at h ht
  obtain ⟨n,o'⟩:=t
  simp only at h ht
  split at h
  ·cases h
  ·cases hr:restF l o' with
   | none=>rw [hr] at h; cases h
   | some q =>
    rw [hr] at h
    simp only [Option.map_some,Option.some.injEq,Prod.mk.injEq] at h
    obtain ⟨rfl,rfl⟩:=h
    obtain ⟨i1,i2,i3,i4⟩:=rest_G hl.tail ht.1 (show restF l o' = some (q.1,q.2) from hr)
    unfold keepF
    split
    ·rename_i hn
     refine ⟨⟨List.Pairwise.cons (fun z hz=>?_) i1.1,fun z hz=>?_⟩,fun z hz=>?_,?_,i4⟩
     ·obtain ⟨w,w1,w2⟩:=i2 z hz
      have:=(List.pairwise_cons.1 hl.1).1 w w1
      unfold Bef at *
      simp only
      omega
     ·rcases List.mem_cons.1 hz with rfl | hz
      ·simp only; omega
      ·exact i1.2 z hz
     ·rcases List.mem_cons.1 hz with rfl | hz
      ·exact ⟨x,by simp,rfl,rfl⟩
      ·obtain ⟨w,w1,w2⟩:=i2 z hz
       exact ⟨w,by simp [w1],w2⟩
     ·simp only [allF,List.map_cons,List.sum_cons,List.singleton_append] at *
      omega
    ·refine ⟨i1,fun z hz=>?_,?_,i4⟩
     ·obtain ⟨w,w1,w2⟩:=i2 z hz
      exact ⟨w,by simp [w1],w2⟩
     ·simp only [allF,List.map_cons,List.sum_cons,List.nil_append] at *
      omega
theorem rest_sub : ∀ {l o m:List It},G l→G o→restF l o=some (m,[]) → ∀ a b,hasF m a b=hasF l a b - hasF o a b
 | [],o,m,hl,ho,h,a,b=>by simp only [restF,Option.some.injEq,Prod.mk.injEq] at h; obtain ⟨rfl,rfl⟩:=h; simp [hasF]
 | x::l,o,m,hl,ho,h,a,b=>by
  have hx:=hl.2 x (by simp)
  have key : ∀ n o', ¬ n<0 → ∀ m,(restF l o').map (fun p=>(keepF x n++p.1,p.2))=some (m,[]) → ∃ m', restF l o' = some (m', [])∧m=keepF x n++m' := by
   intro n o' hn m h
   cases hr:restF l o' with
   | none=>rw [hr] at h; cases h
   | some q =>
    rw [hr] at h
    simp only [Option.map_some,Option.some.injEq,Prod.mk.injEq] at h
    exact ⟨q.1,by rw [← h.2],h.1.symm⟩
  simp only [restF] at h
  have same : ∀ y o', o=y::o' → (y.1=x.1∧y.2.1=x.2.1)→hasF m a b=hasF (x::l) a b - hasF o a b:=by
   rintro y o' rfl hc
   rw [show takeF x (y::o')=(x.2.2 - y.2.2,o') from if_pos hc] at h
   simp only at h
   split at h
   ·cases h
   ·rename_i hn
    obtain ⟨m', h1,rfl⟩:=key _ _ hn _ h
    obtain ⟨i1,i2,_,_⟩:=rest_G hl.tail ho.tail h1
    have ih:=rest_sub hl.tail ho.tail h1 a b
    have hh:=hl.head
    have hh' := ho.head
    rw [has_cons,has_cons,hc.1,hc.2]
    unfold keepF
    by_cases e:x.1=a∧x.2.1=b
    ·rw [if_pos e,if_pos e]
     split
     ·rw [List.singleton_append,has_cons,if_pos e]
     ·rw [List.nil_append,ih,← e.1,← e.2,hh,← hc.1,← hc.2,hh']
      omega
    ·rw [if_neg e,if_neg e,← ih]
     split
     ·rw [List.singleton_append,has_cons,if_neg e]
     ·rfl
  have other:takeF x o=(x.2.2,o)→hasF m a b=hasF (x::l) a b - hasF o a b:=by
   intro ht
   rw [ht] at h
   simp only at h
   split at h
   ·cases h
   ·rename_i hn
    obtain ⟨m', h1,rfl⟩:=key _ _ hn _ h
    obtain ⟨i1,i2,_,_⟩:=rest_G hl.tail ho h1
    have ih:=rest_sub hl.tail ho h1
    rw [show keepF x x.2.2=[(x.1,x.2.1,x.2.2)] from if_pos (by omega),List.singleton_append,has_cons,has_cons]
    by_cases e:x.1=a∧x.2.1=b
    ·rw [if_pos e,if_pos e]
     have q:=ih x.1 x.2.1
     rw [hl.head] at q
     have q1:=i1.pos x.1 x.2.1
     have q2:=ho.pos x.1 x.2.1
     rw [← e.1,← e.2]
     simp only
     omega
    ·rw [if_neg e,if_neg e]
     exact ih a b
  cases o with
  | nil=>exact other rfl
  | cons y o' =>
   by_cases hc:y.1=x.1∧y.2.1=x.2.1
   ·exact same y o' rfl hc
   ·exact other (if_neg hc)
theorem rest_all : ∀ {l o:List It},G l→G o→(∀ a b,hasF o a b≤hasF l a b) → ∃ m,restF l o=some (m,[])
 | [],o,hl,ho,h=>by
  cases o with
  | nil=>exact ⟨[],rfl⟩
  | cons y o =>
   have:=h y.1 y.2.1
   rw [ho.has (by simp)] at this
   have:=ho.2 y (by simp)
   simp only [hasF] at *
   omega
 | x::l,o,hl,ho,h=>by
  have hx:=hl.2 x (by simp)
  have ext : ∀ n o', ¬ n<0→takeF x o=(n,o')→G o' → (∀ a b,hasF o' a b≤hasF l a b) → ∃ m,restF (x::l) o=some (m,[]):=by
   intro n o' hn ht go hh
   obtain ⟨m,hm⟩:=rest_all hl.tail go hh
   refine ⟨keepF x n++m,?_⟩
   simp only [restF,ht]
   rw [if_neg hn,hm]
   rfl
  cases o with
  | nil=>exact ext x.2.2 [] (by omega) rfl G.nil (fun a b=>hl.tail.pos a b)
  | cons y o =>
   by_cases hc:y.1=x.1∧y.2.1=x.2.1
   ·have h0:=h x.1 x.2.1
    rw [has_cons,has_cons,if_pos hc,if_pos ⟨rfl,rfl⟩] at h0
    refine ext (x.2.2 - y.2.2) o (by omega) (if_pos hc) ho.tail (fun a b=>?_)
    have:=h a b
    rw [has_cons,has_cons,hc.1,hc.2] at this
    by_cases e:x.1=a∧x.2.1=b
    ·have hh' := ho.head
     rw [hc.1,hc.2,e.1,e.2] at hh'
     rw [hh']
     exact hl.tail.pos a b
    ·rw [if_neg e,if_neg e] at this
     exact this
   ·refine ext x.2.2 (y::o) (by omega) (if_neg hc) ho (fun a b=>?_)
    have:=h a b
    rw [has_cons x] at this
    by_cases e:x.1=a∧x.2.1=b
    ·
     have hy:=h y.1 y.2.1
     rw [ho.has (by simp),has_cons,if_neg (fun e=>hc ⟨e.1.symm,e.2.symm⟩)] at hy
     have hy1:=ho.2 y (by simp)
     obtain ⟨w,w1,w2⟩:=has_mem (l:=l) (a:=y.1) (b:=y.2.1) (by omega)
     have hxw:=(List.pairwise_cons.1 hl.1).1 w w1
     have hxy:Bef x y:=by unfold Bef at *; omega
     rw [has_none (l:=y::o) (fun z hz=>?_)]
     ·exact hl.tail.pos a b
     ·have hxz:Bef x z:=by
       rcases List.mem_cons.1 hz with rfl | hz
       ·exact hxy
       ·exact hxy.trans ((List.pairwise_cons.1 ho.1).1 z hz)
      have:=hxz.ne
      rw [e.1,e.2] at this
      exact this
    ·rw [if_neg e] at this
     exact this
theorem Stk.g {l:List It} (h:Stk l):G l:=⟨h.2.1.pair,fun x hx=>(h.2.2.2 x hx).1⟩
def needF (p:List (List It)) (q:List Nat) (a b:Int):Int:=(q.map fun i=>hasF (p.getD i []) a b).sum
theorem needF_pos {p:List (List It)} (hp : ∀ l∈p,G l) : ∀ (q:List Nat) (a b:Int),0≤needF p q a b
 | [],a,b=>by simp [needF]
 | i::q,a,b=>by
  have ih:=needF_pos hp q a b
  have:G (p.getD i []):=by
   by_cases h:i<p.length
   ·exact hp _ (List.mem_of_getElem? (getPl h))
   ·simp [List.getD,show p.length≤i from by omega,G.nil]
  have:=this.pos a b
  simp only [needF,List.map_cons,List.sum_cons] at *
  omega
theorem getG {p:List (List It)} (hp : ∀ l∈p,G l) (i:Nat):G (p.getD i []):=by
 by_cases h:i<p.length
 ·exact hp _ (List.mem_of_getElem? (getPl h))
 ·simp [List.getD,show p.length≤i from by omega,G.nil]
theorem cho_some {p:List (List It)} {v:List Int} (hp : ∀ l∈p,G l) : ∀ {q:List Nat} {l m:List It} {n w:Int},G l→choF p v q n l=some (w,m)→w=n+(q.map fun i=>v.getD i 0).sum∧G m∧allF m≤allF l ∧ ∀ a b,hasF m a b=hasF l a b - needF p q a b
 | [],l,m,n,w,hl,h=>by simp only [choF,Option.some.injEq,Prod.mk.injEq] at h; obtain ⟨rfl,rfl⟩:=h; exact ⟨by simp,hl,Int.le_refl _,by simp [needF]⟩
 | i::q,l,m,n,w,hl,h=>by
  simp only [choF] at h
  split at h
  ·rename_i l' hr
   obtain ⟨i1,_,i3,_⟩:=rest_G hl (getG hp i) hr
   have hs:=rest_sub hl (getG hp i) hr
   obtain ⟨j1,j2,j3,j4⟩:=cho_some hp i1 h
   refine ⟨by rw [j1]; simp only [List.map_cons,List.sum_cons]; omega,j2,by omega,fun a b=>?_⟩
   rw [j4,hs]
   simp only [needF,List.map_cons,List.sum_cons]
   omega
  ·cases h
theorem cho_all {p:List (List It)} {v:List Int} (hp : ∀ l∈p,G l) : ∀ {q:List Nat} {l:List It} {n:Int},G l→(∀ a b,needF p q a b≤hasF l a b) → ∃ m,choF p v q n l=some m
 | [],l,n,hl,h=>⟨_,rfl⟩
 | i::q,l,n,hl,h=>by
  have e : ∀ a b,needF p (i::q) a b=hasF (p.getD i []) a b+needF p q a b:=fun a b=>by simp [needF]
  obtain ⟨m,hm⟩:=rest_all hl (getG hp i) (fun a b=>by have:=h a b; rw [e] at this; have:=needF_pos hp q a b; omega)
  obtain ⟨i1,_,_,_⟩:=rest_G hl (getG hp i) hm
  have hs:=rest_sub hl (getG hp i) hm
  obtain ⟨x,hx⟩:=cho_all (v:=v) hp (q:=q) (n:=n+v.getD i 0) i1 (fun a b=>by have:=h a b; rw [e] at this; rw [hs]; omega)
  exact ⟨x,by simp only [choF,hm]; exact hx⟩
theorem lots78 {l:List It} {R:V→Prop} (h : ∀ b,R (bv b)):K0G Try.prog glX 35 [.lst 3 (itl l)] R:=by
 refine K0_of_WY0 hmX hcM 3000 Try.func35 (see (p:=ifB (decide ((↑(itl l).length:Int) > (40:Int))) (R (bv true)) (La 0 [(0:Tmp),(3:Tmp),(4:Tmp)] (WY Try.prog cfM 2993 (Env.mk (Bs.mk 0 []) 0 none 29 35 0) (cdAt [1,1,1,0,1,0,0] (bodyOf Try.f35))) (Qblk 0 (Qthen (WY Try.prog cfM 2996 (Env.mk (Bs.mk 0 []) 0 none 29 35 0) (cdAt [1,1,1,1] (bodyOf Try.f35)) (QendX Try.prog Try.f35 fun v h=>R (frzW h v))) (QendX Try.prog Try.f35 fun v h=>R (frzW h v)))) (St.mk (mkT [(0,V.lst 3 (itl l)),(3,iv (0:Int)),(4,iv (0:Int))]) (Hp.mk [] 0 [])))) (by kernel_rfl) ?_)
 rw [itl_length]
 refine ifB_mk (fun _=>h _) (fun hl=>?_)
 have hl:l.length≤40:=by have:=of_decide_eq_false hl; omega
 refine La.of (σ:=Int×Nat) (fun x=>sh78 l x.1 x.2) (fun x=>x.2≤l.length) (fun x=>l.length - x.2) (0,0) (by kernel_rfl) (by simp) ?_
 rintro ⟨n,k⟩ g1 J hJ
 simp only at g1
 refine see (p:=ifB (decide ((↑k:Int)<(↑(itl l).length:Int))) (onSome (itl l)[k]? fun row=>onSome row[2]? fun v=>onIntK IntKind.i64 v fun n_1=>ifB (decide (n_1 ≥ (0:Int))) (ifB (decide (n_1≤(1000:Int))) (onSome (itl l)[k]? fun row=>onSome row[2]? fun v=>onIntK IntKind.i64 v fun n_2=>J (St.mk (mkT [(0,V.lst 3 (itl l)),(3,iv (IntKind.i64.wrap (n+n_2))),(4,iv (IntKind.i64.wrap ((↑k:Int)+(1:Int))))]) (Hp.mk [] 0 []))) (J (St.mk (mkT [(0,V.lst 3 (itl l)),(3,iv n),(4,iv (IntKind.i64.wrap ((↑k:Int)+(1:Int))))]) (Hp.mk [] 0 [])))) (J (St.mk (mkT [(0,V.lst 3 (itl l)),(3,iv n),(4,iv (IntKind.i64.wrap ((↑k:Int)+(1:Int))))]) (Hp.mk [] 0 [])))) (R (bv (decide (n > (8000:Int)))))) (by kernel_rfl) ?_
 rw [itl_length]
 refine ifB_mk (fun hb=>?_) (fun hb=>h _)
 have hlt:k<l.length:=by have:=of_decide_eq_true hb; omega
 obtain ⟨x,hx⟩ : ∃ x,l[k]? = some x:=⟨l[k],by simp [hlt]⟩
 have go : ∀ m,J (sh78 l m (k+1)):=fun m=>hJ (m,k+1) (by simp only; omega) (by simp only; omega)
 rw [wr1i hlt (by omega)]
 refine onSome_mk (itl_get hx) (onSome_mk (x:=iv x.2.2) rfl (onIntK_iv ?_))
 refine ifB_mk (fun _=>ifB_mk (fun _=>onSome_mk (itl_get hx) (onSome_mk (x:=iv x.2.2) rfl (onIntK_iv (go _)))) (fun _=>go _)) (fun _=>go _)
theorem lots28 {p:List (List It)} {R:V→Prop} (hp:p.length≤6) (h : ∀ b,R (bv b)):K0G Try.prog glX 8 [.lst 1 (pll p)] R:=by
 refine K0_of_WY0 hmX hcM 3000 Try.func8 (see (p:=La 0 [(5:Tmp),(6:Tmp),(7:Tmp)] (WY Try.prog cfM 2995 (Env.mk (Bs.mk 0 []) 0 none 14 8 0) (cdAt [1,0,1,0,0] (bodyOf Try.f8))) (Qblk 0 (Qthen (WY Try.prog cfM 2998 (Env.mk (Bs.mk 0 []) 0 none 14 8 0) (cdAt [1,1] (bodyOf Try.f8)) (QendX Try.prog Try.f8 fun v h=>R (frzW h v))) (QendX Try.prog Try.f8 fun v h=>R (frzW h v)))) (St.mk (mkT [(5,V.lst 1 (pll p)),(6,iv (↑(pll p).length:Int)),(7,iv (0:Int))]) (Hp.mk [] 0 []))) (by kernel_rfl) ?_)
 refine La.of (σ:=Nat) (fun k=>sh28 p k) (fun k=>k≤p.length) (fun k=>p.length - k) 0 (by kernel_rfl) (by simp) ?_
 intro k g1 J hJ
 refine see (p:=ifB (decide ((↑k:Int)<(↑(pll p).length:Int))) (onSome (pll p)[k]? fun row=>onSome row[0]? fun v=>onLst v fun s es=>K0G Try.prog glX 35 [V.lst s es] fun v=>onBool v fun b=>ifB b (R (bv true)) (J (St.mk (mkT [(5,V.lst 1 (pll p)),(6,iv (↑(pll p).length:Int)),(7,iv (IntKind.i64.wrap ((↑k:Int)+(1:Int))))]) (Hp.mk [] 0 [])))) (R (bv false))) (by kernel_rfl) ?_
 simp only [pll_length]
 refine ifB_mk (fun hb=>?_) (fun hb=>h _)
 have hlt:k<p.length:=by have:=of_decide_eq_true hb; omega
 obtain ⟨l,hl⟩ : ∃ x,p[k]? = some x:=⟨p[k],by simp [hlt]⟩
 rw [wr1i hlt (by omega)]
 refine pll_get hl (lots78 (fun b=>onBool_bv (ifB_mk (fun _=>h _) (fun _=>hJ' ?_ (hJ (k+1) (by omega) (by omega))))))
 simp [sh28,pll_length]
def Built (bx:List It) (p:List (List It)) (who:List Nat) (m:Nat):Prop := ∀ (i:Nat) (l:List It),p[i]? = some l→who[i]? = some m → ∀ x∈l,sumF p who m x≤hasF bx x.1 x.2.1
def whoF (n:Nat) (T:List Nat):List Nat:=(List.range n).map fun i=>if i∈T then 1 else 0
theorem whoF_len (n:Nat) (T:List Nat):(whoF n T).length=n:=by simp [whoF]
theorem whoF_get {n i:Nat} (T:List Nat) (h:i<n):(whoF n T)[i]? = some (if i∈T then 1 else 0):=by simp [whoF,h]
theorem bl8_mem {s i:Nat}:i∈bl8 s↔i<8∧s.testBit i=true:=by simp [bl8,List.mem_filter]
theorem bl8_sorted (s:Nat):(bl8 s).Pairwise (· < ·):=List.Pairwise.filter _ (List.pairwise_lt_range)
def sumV (v:List Int) (q:List Nat):Int:=(q.map fun i=>v.getD i 0).sum
theorem sumV_ok {v:List Int} (hv : ∀ x∈v,0≤x∧x≤1000) : ∀ q:List Nat,0≤sumV v q∧sumV v q≤(q.length:Int) * 1000
 | []=>by simp [sumV]
 | i::q=>by
  have ih:=sumV_ok hv q
  have:0≤v.getD i 0∧v.getD i 0≤1000:=by
   by_cases h:i<v.length
   ·exact hv _ (List.mem_of_getElem? (getVa h))
   ·simp [List.getD,show v.length≤i from by omega]
  simp only [sumV,List.map_cons,List.sum_cons,List.length_cons] at *
  omega
theorem sumF_range (p:List (List It)) (x:It) (T:List Nat) : ∀ (k:Nat),k≤p.length→sumF (p.drop (p.length - k)) ((whoF p.length T).drop (p.length - k)) 1 x=needF p ((List.range' (p.length - k) k).filter fun i=>decide (i∈T)) x.1 x.2.1
 | 0,_=>by
  rw [Nat.sub_zero,List.drop_eq_nil_of_le (Nat.le_refl _)]
  simp [sumF,needF]
 | k+1,hk=>by
  have ih:=sumF_range p x T k (by omega)
  have hlt:p.length - (k+1)<p.length:=by omega
  have e:p.length - (k+1)+1=p.length - k:=by omega
  have h1:p.drop (p.length - (k+1))=p.getD (p.length - (k+1)) []::p.drop (p.length - k):=by
   rw [List.drop_eq_getElem_cons hlt,e]; congr 1; simp [List.getD,hlt]
  have h2:(whoF p.length T).drop (p.length - (k+1))=(if p.length - (k+1)∈T then 1 else 0)::(whoF p.length T).drop (p.length - k):=by
   rw [List.drop_eq_getElem_cons (by rw [whoF_len]; exact hlt),e]; congr 1; simp [whoF]
  rw [h1,h2,List.range'_succ,e]
  simp only [sumF]
  rw [ih]
  by_cases hT:p.length - (k+1)∈T
  ·rw [if_pos hT,if_pos rfl,List.filter_cons_of_pos (by simpa using hT)]
   simp [needF]
  ·rw [if_neg hT,if_neg (by simp),List.filter_cons_of_neg (by simpa using hT)]
   simp [needF]
theorem sorted_ext : ∀ {a b:List Nat},a.Pairwise (· < ·)→b.Pairwise (· < ·)→(∀ i,i∈a↔i∈b)→a=b
 | [],[],_,_,_=>rfl
 | [],y::b,_,_,h=>by have:=(h y).2 (by simp); cases this
 | x::a,[],_,_,h=>by have:=(h x).1 (by simp); cases this
 | x::a,y::b,ha,hb,h=>by
  have a1:=List.pairwise_cons.1 ha
  have b1:=List.pairwise_cons.1 hb
  have exy:x=y:=by
   have h1:=(h x).1 (by simp)
   have h2:=(h y).2 (by simp)
   rcases List.mem_cons.1 h1 with e | e
   ·exact e
   ·rcases List.mem_cons.1 h2 with e' | e'
    ·exact e'.symm
    ·have:=b1.1 x e; have:=a1.1 y e'; omega
  subst exy
  congr 1
  refine sorted_ext a1.2 b1.2 (fun i=>?_)
  constructor
  ·intro hi
   have hlt:=a1.1 i hi
   rcases List.mem_cons.1 ((h i).1 (by simp [hi])) with e | e
   ·omega
   ·exact e
  ·intro hi
   have hlt:=b1.1 i hi
   rcases List.mem_cons.1 ((h i).2 (by simp [hi])) with e | e
   ·omega
   ·exact e
theorem sumF_need {p:List (List It)} {T:List Nat} (x:It) (hT : ∀ i∈T,i<p.length) (hs:T.Pairwise (· < ·)):sumF p (whoF p.length T) 1 x=needF p T x.1 x.2.1:=by
 have:=sumF_range p x T p.length (Nat.le_refl _)
 rw [Nat.sub_self,List.drop_zero,List.drop_zero] at this
 rw [this]
 congr 1
 refine sorted_ext (List.Pairwise.filter _ (List.pairwise_lt_range' (s:=0) (n:=p.length))) hs (fun i=>?_)
 simp only [List.mem_filter,decide_eq_true_eq,List.mem_range'_1]
 exact ⟨fun h=>h.2,fun h=>⟨⟨by omega,by have:=hT i h; omega⟩,h⟩⟩
theorem need_zero {p:List (List It)} {T:List Nat} {a b:Int} (h : ∀ i∈T,hasF (p.getD i []) a b=0):needF p T a b=0:=by
 induction T with
 | nil=>rfl
 | cons i T ih =>
  simp only [needF,List.map_cons,List.sum_cons] at *
  rw [h i (by simp),ih (fun j hj=>h j (by simp [hj]))]
  rfl
theorem built_need {bx:List It} {p:List (List It)} {T:List Nat} (hb:G bx) (hp : ∀ l∈p,G l) (hT : ∀ i∈T,i<p.length) (hs:T.Pairwise (· < ·)):Built bx p (whoF p.length T) 1 ↔ ∀ a b,needF p T a b≤hasF bx a b:=by
 constructor
 ·intro h a b
  by_cases hz : ∀ i∈T,hasF (p.getD i []) a b=0
  ·rw [need_zero hz]; exact hb.pos a b
  ·obtain ⟨i,hz⟩:=Classical.not_forall.1 hz
   obtain ⟨hi,hne⟩:=Classical.not_imp.1 hz
   obtain ⟨y,hy,e1,e2⟩:=has_mem hne
   have:=h i _ (getPl (hT i hi)) (by rw [whoF_get T (hT i hi),if_pos hi]) y hy
   rw [sumF_need y hT hs,e1,e2] at this
   exact this
 ·intro h i l hl hw x hx
  rw [sumF_need x hT hs]
  exact h x.1 x.2.1
end Go.Proofs.Ytmddjopahcbefaa
namespace Go.Proofs.Ytmddjopahcbefaa.Clean
set_option linter.unusedVariables false
set_option linter.unusedSimpArgs false
section
variable {ν:Nu} {F:Nat→Prop} {h:Hp} {w w' : World}
end
end Go.Proofs.Ytmddjopahcbefaa.Clean
namespace Go.Proofs.Ytmddjopahcbefaa
open Go Go.Proofs.Ytmddjopahcbefaa.Clean
set_option linter.unusedVariables false
set_option maxRecDepth 100000
def kpS:FuncId→Nat→Option (List Tmp):=slotsOf [(77,0,[1,2,7,12,13,14]),(77,2,[1,2,7,9,12,13,14,18,19,20]),(118,0,[4,6,7,22,23,24]),(118,2,[6,7,35,36,37]),(78,0,[0,1,4,5,6]),(119,0,[0,1,9,10,11]),(9999,0,[0,1,2,3,9,11,13,87,88,89])]
noncomputable def cfS:Cfg:=cfgM Try.prog glX moC tyC (inN [113,134,43,44,57,106,131,67,105,125,138,91]) kpS
def shr (s:List Nat×Int):List V:=[.lst 1 (ul s.1),iv s.2]
def shl (l:List (List Nat×Int)):List (List V):=l.map shr
noncomputable def sh61a (b:Ch) (u:Nat) (q:List Nat) (n:Nat) (v:Int) (w:List Nat) (k:Nat):St:=⟨mkT [(4,V.ptr (Id.p 0) 0 0),(6,V.ptr (Id.p 1) 0 0),(7,V.ptr (Id.p 2) 0 0),(22,V.lst u (nn q)),(23,iv ((nn q).length:Int)),(24,iv (k:Int))],⟨[(0,O.rows 3 false [chr b]),(1,O.rows 2 false [[nilS,iv (0:Int)]]),(2,O.rows 2 false [[V.sl (Id.p 3) 0 n,iv v]]),(3,O.rows 1 true (ul w))],4,[]⟩⟩
noncomputable def sh61b (u:Nat) (q:List Nat) (n:Nat) (v:Int) (w:List Nat) (k:Nat):St:=⟨mkT [(6,V.ptr (Id.p 0) 0 0),(7,V.ptr (Id.p 1) 0 0),(35,V.lst u (nn q)),(36,iv ((nn q).length:Int)),(37,iv (k:Int))],⟨[(0,O.rows 2 false [[nilS,iv (0:Int)]]),(1,O.rows 2 false [[V.sl (Id.p 2) 0 n,iv v]]),(2,O.rows 1 true (ul w))],3,[]⟩⟩
noncomputable def sh31n (x y:List Ch) (n:Nat) (i:Nat):St:=⟨mkT [(1,V.lst 3 (chl y)),(2,iv (n:Int)),(7,nilS),(12,V.lst 3 (chl x)),(13,iv ((chl x).length:Int)),(14,iv (i:Int))],⟨[],0,[]⟩⟩
noncomputable def sh31s (x y:List Ch) (n:Nat) (l:List (List Nat×Int)) (i:Nat):St:=⟨mkT [(1,V.lst 3 (chl y)),(2,iv (n:Int)),(7,V.sl (Id.p 0) 0 l.length),(12,V.lst 3 (chl x)),(13,iv ((chl x).length:Int)),(14,iv (i:Int))],⟨[(0,O.rows 2 true (shl l))],1,[]⟩⟩
noncomputable def sh33 (l:List (List Nat×Int)) (c:List Nat×Int) (k:Nat):St:=⟨mkT [(0,V.lst 2 (shl l)),(1,V.fn (Fn.func 79) [] []),(4,V.ptr (Id.p 0) 0 0),(5,V.ptr (Id.p 1) 0 0),(6,iv (k:Int))],⟨[(0,O.rows 2 false [[nilS,iv (0:Int)]]),(1,O.rows 2 false [shr c])],2,[]⟩⟩
noncomputable def sh66 (a b:List Nat) (k:Nat):St:=⟨mkT [(0,V.lst 1 (ul a)),(1,V.lst 1 (ul b)),(9,V.lst 1 (ul a)),(10,iv ((ul a).length:Int)),(11,iv (k:Int))],⟨[],0,[]⟩⟩
noncomputable def sh31nb (x y:List Ch) (n:Nat) (i:Nat) (a:Ch) (k:Nat):St:=⟨mkT [(1,V.lst 3 (chl y)),(2,iv (n:Int)),(7,nilS),(9,V.ptr (Id.p 0) 0 0),(12,V.lst 3 (chl x)),(13,iv ((chl x).length:Int)),(14,iv (i:Int)),(18,V.lst 3 (chl y)),(19,iv ((chl y).length:Int)),(20,iv (k:Int))],⟨[(0,O.rows 3 false [chr a])],1,[]⟩⟩
noncomputable def sh31sb (x y:List Ch) (n:Nat) (l:List (List Nat×Int)) (i:Nat) (a:Ch) (k:Nat):St:=⟨mkT [(1,V.lst 3 (chl y)),(2,iv (n:Int)),(7,V.sl (Id.p 0) 0 l.length),(9,V.ptr (Id.p 1) 0 0),(12,V.lst 3 (chl x)),(13,iv ((chl x).length:Int)),(14,iv (i:Int)),(18,V.lst 3 (chl y)),(19,iv ((chl y).length:Int)),(20,iv (k:Int))],⟨[(0,O.rows 2 true (shl l)),(1,O.rows 3 false [chr a])],2,[]⟩⟩
set_option linter.unusedSimpArgs false
set_option maxRecDepth 10000
theorem hcSh:cfS.ok Try.prog:=⟨hcM.c0,hcM.known⟩
theorem ul_length (l:List Nat):(ul l).length=l.length:=by simp [ul]
theorem shl_length (l:List (List Nat×Int)):(shl l).length=l.length:=by simp [shl]
theorem ulel {l:List Nat} {i n:Nat} {k:Int→Prop} (h:l[i]? = some n) (hk:k (n:Int)):onSome (ul l)[i]? fun row=>onSome row[0]? fun v=>onIntK IntKind.u8 v fun n=>k n:=onSome_mk (ul_get h) hk
def wS (n:Nat) (S T:List Nat):List Nat:=(List.range n).map fun i=>if i∈T then 2 else if i∈S then 1 else 0
theorem wS_len (n:Nat) (S T:List Nat):(wS n S T).length=n:=by simp [wS]
theorem wS_get {n i:Nat} (S T:List Nat) (h:i<n):(wS n S T)[i]? = some (if i∈T then 2 else if i∈S then 1 else 0):=by simp [wS,h]
theorem wS_zero (n:Nat):List.replicate n [V.raw (Value.int IntKind.u8 (0:Int))]=ul (wS n [] []):=by
 apply List.ext_getElem?
 intro i
 by_cases hi:i<n
 ·rw [ul_get (wS_get [] [] hi)]
  simp [hi,sv,u8v]
 ·rw [List.getElem?_eq_none_iff.2 (by simp; omega),List.getElem?_eq_none_iff.2 (by rw [ul_length,wS_len]; omega)]
theorem wS_set1 {n m:Nat} {S S' : List Nat} (hS : ∀ i,i∈S' ↔ i∈S∨i=m):(wS n S []).set m 1=wS n S' []:=by
 apply List.ext_getElem?
 intro i
 rw [List.getElem?_set]
 by_cases hi:i<n
 ·rw [wS_get S [] hi,wS_get S' [] hi,wS_len]
  by_cases e:m=i
  ·subst e; simp [hi,(hS m).2 (.inr rfl)]
  ·have:i∈S' ↔ i∈S:=by rw [hS]; exact ⟨fun h=>h.resolve_right (fun q=>e q.symm),.inl⟩
   simp [e,this]
 ·rw [List.getElem?_eq_none_iff.2 (by rw [wS_len]; omega),List.getElem?_eq_none_iff.2 (by rw [wS_len]; omega),wS_len]
  split
  ·simp; omega
  ·rfl
theorem wS_set2 {n m:Nat} {S T T' : List Nat} (hT : ∀ i,i∈T' ↔ i∈T∨i=m):(wS n S T).set m 2=wS n S T' := by
 apply List.ext_getElem?
 intro i
 rw [List.getElem?_set]
 by_cases hi:i<n
 ·rw [wS_get S T hi,wS_get S T' hi,wS_len]
  by_cases e:m=i
  ·subst e; simp [hi,(hT m).2 (.inr rfl)]
  ·have:i∈T' ↔ i∈T:=by rw [hT]; exact ⟨fun h=>h.resolve_right (fun q=>e q.symm),.inl⟩
   simp [e,this]
 ·rw [List.getElem?_eq_none_iff.2 (by rw [wS_len]; omega),List.getElem?_eq_none_iff.2 (by rw [wS_len]; omega),wS_len]
  split
  ·simp; omega
  ·rfl
theorem ul_setv (l:List Nat) (m z:Nat) {row:List V} (hr:row.drop 1=[]):(ul l).set (0+m) (V.raw (Value.int IntKind.u8 (z:Int))::(List.append ([]:List V)) (List.drop 1 row))=ul (l.set m z):=by
 rw [hr,Nat.zero_add]
 show (ul l).set m [sv z]=_
 simp only [ul]
 rw [List.map_set]
theorem take_mem {q:List Nat} {k m:Nat} (h:q[k]? = some m) (i:Nat):i∈q.take (k+1)↔i∈q.take k∨i=m:=by
 rw [List.take_add_one,h]
 simp
theorem shareOf61 {a b:Ch} {n:Nat} {R:V→Prop} (ha:a.1<256) (hb:b.1<256) (hn:n≤1000) (hia : ∀ i∈bl8 a.1,i<n) (hib : ∀ i∈bl8 b.1,i<n) (hva:0≤a.2.1∧a.2.1≤1000000000) (hvb:0≤b.2.1∧b.2.1≤1000000000)
  (h:R (.agg (shr (wS n (bl8 a.1) (bl8 b.1),a.2.1+b.2.1)))):K0G Try.prog glX 118 [.agg (chr a),.agg (chr b),iv (n:Int)] R:=by
 refine K0_of_WY0 hmX hcSh 3000 Try.func118 (see (p:=need (n≤n) (need (1 * n≤140737488355328) (need (n≤9223372036854775807) (K0G Try.prog glX 72 [V.raw (Value.int IntKind.u8 (↑a.1:Int))] fun v=>onLst v fun s es=>La 0 [(4:Tmp),(6:Tmp),(7:Tmp),(22:Tmp),(23:Tmp),(24:Tmp)] (WY Try.prog cfS 2994 (Env.mk (Bs.mk 0 []) 0 none 47 118 0) (cdAt [1,1,0,1,0,0] (bodyOf Try.f118))) (Qblk 0 (Qthen (WY Try.prog cfS 2997 (Env.mk (Bs.mk 0 []) 0 none 47 118 0) (cdAt [1,1,1] (bodyOf Try.f118)) (QendX Try.prog Try.f118 fun v h=>R (frzW h v))) (QendX Try.prog Try.f118 fun v h=>R (frzW h v)))) (St.mk (mkT [(4,V.ptr (Id.p 0) 0 0),(6,V.ptr (Id.p 1) 0 0),(7,V.ptr (Id.p 2) 0 0),(22,V.lst s es),(23,iv (↑es.length:Int)),(24,iv (0:Int))]) (Hp.mk [(0,O.rows 3 false [[V.raw (Value.int IntKind.u8 (↑b.1:Int)),iv b.2.1,V.lst b.2.2.2 (itl b.2.2.1)]]),(1,O.rows 2 false [[nilS,iv (0:Int)]]),(2,O.rows 2 false [[V.sl (Id.p 3) 0 n,iv (IntKind.i64.wrap (a.2.1+b.2.1))]]),(3,O.rows 1 true (List.replicate n [V.raw (Value.int IntKind.u8 (0:Int))]))] 4 [])))))) (by kernel_rfl) ?_)
 refine need_mk ⟨Nat.le_refl _,need_mk ⟨by omega,need_mk ⟨by omega,?_⟩⟩⟩
 rw [wr (n:=a.2.1+b.2.1) (by omega) (by omega),wS_zero]
 obtain ⟨u,hu,hN⟩:=lsN_isL (bl8 a.1)
 refine list90 ha (onLst_isL hN ?_)
 generalize hq:bl8 a.1=q at h hia hu
 have hq8:q.length≤8:=hq ▸ bl8_len a.1
 obtain ⟨v,hv⟩ : ∃ v,v=a.2.1+b.2.1:=⟨_,rfl⟩
 rw [← hv] at h ⊢
 refine La.of (σ:=Nat) (fun k=>sh61a b u q n v (wS n (q.take k) []) k) (fun k=>k≤q.length) (fun k=>q.length - k) 0 (by kernel_rfl) (by omega) ?_
 rintro k g J hJ
 obtain ⟨w,hw⟩ : ∃ w,w=wS n (q.take k) []:=⟨_,rfl⟩
 rw [← hw]
 refine see (p:=ifB (decide ((↑k:Int)<(↑(nn q).length:Int))) (need (u=1) (onSome (nn q)[k]? fun row=>onSome row[0]? fun v_1=>onIntK IntKind.i64 v_1 fun n_1=>onNat n_1 fun m=>need (m<n) (onSome (ul w)[0+m]? fun row=>guardB ((0+1).ble row.length) (J (St.mk (mkT [(4,V.ptr (Id.p 0) 0 0),(6,V.ptr (Id.p 1) 0 0),(7,V.ptr (Id.p 2) 0 0),(22,V.lst u (nn q)),(23,iv (↑(nn q).length:Int)),(24,iv (IntKind.i64.wrap ((↑k:Int)+(1:Int))))]) (Hp.mk [(0,O.rows 3 false [[V.raw (Value.int IntKind.u8 (↑b.1:Int)),iv b.2.1,V.lst b.2.2.2 (itl b.2.2.1)]]),(1,O.rows 2 false [[nilS,iv (0:Int)]]),(2,O.rows 2 false [[V.sl (Id.p 3) 0 n,iv v]]),(3,O.rows 1 true ((ul w).set (0+m) (V.raw (Value.int IntKind.u8 (1:Int))::(List.append []) (List.drop 1 row))))] 4 [])))))) (K0G Try.prog glX 72 [V.raw (Value.int IntKind.u8 (↑b.1:Int))] fun v_1=>onLst v_1 fun s es=>La 0 [(6:Tmp),(7:Tmp),(35:Tmp),(36:Tmp),(37:Tmp)] (WY Try.prog cfS 2993 (Env.mk (Bs.mk 0 []) 0 none 47 118 2) (cdAt [1,1,1,0,1,0,0] (bodyOf Try.f118))) (Qblk 2 (Qthen (WY Try.prog cfS 2996 (Env.mk (Bs.mk 0 []) 0 none 47 118 0) (cdAt [1,1,1,1] (bodyOf Try.f118)) (QendX Try.prog Try.f118 fun v h=>R (frzW h v))) (QendX Try.prog Try.f118 fun v h=>R (frzW h v)))) (St.mk (mkT [(6,V.ptr (Id.p 0) 0 0),(7,V.ptr (Id.p 1) 0 0),(35,V.lst s es),(36,iv (↑es.length:Int)),(37,iv (0:Int))]) (Hp.mk [(0,O.rows 2 false [[nilS,iv (0:Int)]]),(1,O.rows 2 false [[V.sl (Id.p 2) 0 n,iv v]]),(2,O.rows 1 true (ul w))] 3 [])))) (by kernel_rfl) ?_
 refine ifB_mk (fun d=>?_) (fun d=>?_)
 ·have hk:k<q.length:=by have:=of_decide_eq_true d; rw [nn_length] at this; omega
  obtain ⟨m,hm⟩ : ∃ m,q[k]? = some m:=⟨q[k],by simp [hk]⟩
  have hmn:=hia m (List.mem_of_getElem? hm)
  refine need_mk ⟨hu.resolve_right (by rintro rfl; simp at hk),nel hm (onNat_c (need_mk ⟨hmn,onSome_mk (x:=[sv (if m∈([]:List Nat) then 2 else if m∈q.take k then 1 else 0)]) ?_ (guardB_mk rfl ?_)⟩))⟩
  ·rw [hw,Nat.zero_add]; exact ul_get (wS_get _ _ hmn)
  ·rw [wr1i hk (by omega)]
   have e:=ul_setv w m 1 (row:=[sv (if m∈([]:List Nat) then 2 else if m∈q.take k then 1 else 0)]) rfl
   have:=hJ (k+1) hk (by omega)
   rw [← wS_set1 (S:=q.take k) (take_mem hm),← hw] at this
   refine hJ' ?_ this
   simp only [sh61a]
   rw [← e]
   rfl
 ·have hk:k=q.length:=by have:=of_decide_eq_false d; rw [nn_length] at this; omega
  obtain ⟨u2,hu2,hN2⟩:=lsN_isL (bl8 b.1)
  refine list90 hb (onLst_isL hN2 ?_)
  rw [hk,List.take_length] at hw
  generalize hq2:bl8 b.1=q2 at h hib hu2
  have hq82:q2.length≤8:=hq2 ▸ bl8_len b.1
  clear hJ
  rw [hw]
  refine La.of (σ:=Nat) (fun k=>sh61b u2 q2 n v (wS n q (q2.take k)) k) (fun k=>k≤q2.length) (fun k=>q2.length - k) 0 (by kernel_rfl) (by omega) ?_
  clear hw w hk d g
  rintro k g I hI
  obtain ⟨w,hw⟩ : ∃ w,w=wS n q (q2.take k):=⟨_,rfl⟩
  rw [← hw]
  refine see (p:=ifB (decide ((↑k:Int)<(↑(nn q2).length:Int))) (need (u2=1) (onSome (nn q2)[k]? fun row=>onSome row[0]? fun v_1=>onIntK IntKind.i64 v_1 fun n_1=>onNat n_1 fun m=>need (m<n) (onSome (ul w)[0+m]? fun row=>guardB ((0+1).ble row.length) (I (St.mk (mkT [(6,V.ptr (Id.p 0) 0 0),(7,V.ptr (Id.p 1) 0 0),(35,V.lst u2 (nn q2)),(36,iv (↑(nn q2).length:Int)),(37,iv (IntKind.i64.wrap ((↑k:Int)+(1:Int))))]) (Hp.mk [(0,O.rows 2 false [[nilS,iv (0:Int)]]),(1,O.rows 2 false [[V.sl (Id.p 2) 0 n,iv v]]),(2,O.rows 1 true ((ul w).set (0+m) (V.raw (Value.int IntKind.u8 (2:Int))::(List.append []) (List.drop 1 row))))] 3 [])))))) (R (V.agg [V.lst 1 (sub (ul w) 0 n),iv v]))) (by kernel_rfl) ?_
  refine ifB_mk (fun d=>?_) (fun d=>?_)
  ·have hk:k<q2.length:=by have:=of_decide_eq_true d; rw [nn_length] at this; omega
   obtain ⟨m,hm⟩ : ∃ m,q2[k]? = some m:=⟨q2[k],by simp [hk]⟩
   have hmn:=hib m (List.mem_of_getElem? hm)
   refine need_mk ⟨hu2.resolve_right (by rintro rfl; simp at hk),nel hm (onNat_c (need_mk ⟨hmn,onSome_mk (x:=[sv (if m∈q2.take k then 2 else if m∈q then 1 else 0)]) ?_ (guardB_mk rfl ?_)⟩))⟩
   ·rw [hw,Nat.zero_add]; exact ul_get (wS_get _ _ hmn)
   ·rw [wr1i hk (by omega)]
    have e:=ul_setv w m 2 (row:=[sv (if m∈q2.take k then 2 else if m∈q then 1 else 0)]) rfl
    have:=hI (k+1) hk (by omega)
    rw [← wS_set2 (T:=q2.take k) (take_mem hm),← hw] at this
    refine hJ' ?_ this
    simp only [sh61b]
    rw [← e]
    rfl
  ·have hk:k=q2.length:=by have:=of_decide_eq_false d; rw [nn_length] at this; omega
   rw [hk,List.take_length] at hw
   rw [show sub (ul w) 0 n=ul w from by rw [← (show (ul w).length=n from by rw [ul_length,hw,wS_len])]; exact sub_all _,hw]
   exact h
theorem and8 {s t:Nat} (hs:s<256) (ht:t<256):IntKind.u8.wrap (((BitVec.ofInt 8 (s:Int) &&& BitVec.ofInt 8 (t:Int)).toNat:Nat):Int)=((s &&& t:Nat):Int):=by
 have e:(BitVec.ofInt 8 (s:Int) &&& BitVec.ofInt 8 (t:Int)).toNat=s &&& t:=by
  rw [BitVec.ofInt_natCast,BitVec.ofInt_natCast,BitVec.toNat_and,BitVec.toNat_ofNat,BitVec.toNat_ofNat,Nat.mod_eq_of_lt (by omega),Nat.mod_eq_of_lt (by omega)]
 rw [e]
 exact u8w _ (Nat.lt_of_le_of_lt Nat.and_le_left hs)
def shOf (n:Nat) (a b:Ch):List Nat×Int:=(wS n (bl8 a.1) (bl8 b.1),a.2.1+b.2.1)
def shR (n:Nat) (a:Ch) (y:List Ch):List (List Nat×Int):=y.flatMap fun b=>if a.1 &&& b.1=0 then [shOf n a b] else []
def shA (n:Nat) (x y:List Ch):List (List Nat×Int):=x.flatMap fun a=>shR n a y
theorem shR_succ {n k:Nat} {a b:Ch} {y:List Ch} (h:y[k]? = some b):shR n a (y.take (k+1))=shR n a (y.take k)++if a.1 &&& b.1=0 then [shOf n a b] else []:=by
 unfold shR
 rw [List.take_add_one,h,List.flatMap_append]
 simp
theorem shA_succ {n i:Nat} {a:Ch} {x y:List Ch} (h:x[i]? = some a):shA n (x.take (i+1)) y=shA n (x.take i) y++shR n a y:=by
 unfold shA
 rw [List.take_add_one,h,List.flatMap_append]
 simp
theorem shR_len (n:Nat) (a:Ch) : ∀ y:List Ch,(shR n a y).length≤y.length
 | []=>by simp [shR]
 | b::y=>by
  have:=shR_len n a y
  unfold shR at *
  rw [List.flatMap_cons,List.length_append,List.length_cons]
  split
  ·rw [List.length_singleton]; omega
  ·rw [List.length_nil]; omega
theorem shA_len (n:Nat) (y:List Ch) : ∀ x:List Ch,(shA n x y).length≤x.length * y.length
 | []=>by simp [shA]
 | a::x=>by
  have h1:=shA_len n y x
  have h2:=shR_len n a y
  unfold shA at *
  rw [List.flatMap_cons,List.length_append,List.length_cons,Nat.succ_mul]
  omega
noncomputable def fa31 (x y:List Ch) (n:Nat) (l:List (List Nat×Int)) (i:Nat):St:=match l with | []=>sh31n x y n i | c::r=>sh31s x y n (c::r) i
noncomputable def fb31 (x y:List Ch) (n:Nat) (l:List (List Nat×Int)) (i:Nat) (a:Ch) (k:Nat):St:=match l with | []=>sh31nb x y n i a k | c::r=>sh31sb x y n (c::r) i a k
theorem fa31_s {x y:List Ch} {n i:Nat} {l:List (List Nat×Int)} (h:l≠[]):fa31 x y n l i=sh31s x y n l i:=by cases l with | nil=>exact (h rfl).elim | cons c r=>rfl
theorem fb31_s {x y:List Ch} {n i k:Nat} {a:Ch} {l:List (List Nat×Int)} (h:l≠[]):fb31 x y n l i a k=sh31sb x y n l i a k:=by cases l with | nil=>exact (h rfl).elim | cons c r=>rfl
theorem shl_take (l:List (List Nat×Int)):List.take l.length (shl l)=shl l:=by rw [← shl_length]; exact List.take_length
theorem shares31 {x y:List Ch} {n:Nat} {R:V→Prop} (hn:n≤1000) (hx:x.length≤1000) (hy:y.length≤1000) (hxo : ∀ a∈x,a.1<256∧(∀ i∈bl8 a.1,i<n)∧0≤a.2.1∧a.2.1≤1000000000) (hyo : ∀ a∈y,a.1<256∧(∀ i∈bl8 a.1,i<n)∧0≤a.2.1∧a.2.1≤1000000000)
  (hne:shA n x y≠[]) (h:R (.lst 2 (shl (shA n x y)))):K0G Try.prog glX 77 [.lst 3 (chl x),.lst 3 (chl y),iv (n:Int)] R:=by
 refine K0_of_WY0 hmX hcSh 3000 Try.func77 (see (p:=La 0 [(1:Tmp),(2:Tmp),(7:Tmp),(12:Tmp),(13:Tmp),(14:Tmp)] (WY Try.prog cfS 2994 (Env.mk (Bs.mk 0 []) 0 none 40 77 0) (cdAt [1,1,0,1,0,0] (bodyOf Try.f77))) (Qblk 0 (Qthen (WY Try.prog cfS 2997 (Env.mk (Bs.mk 0 []) 0 none 40 77 0) (cdAt [1,1,1] (bodyOf Try.f77)) (QendX Try.prog Try.f77 fun v h=>R (frzW h v))) (QendX Try.prog Try.f77 fun v h=>R (frzW h v)))) (St.mk (mkT [(1,V.lst 3 (chl y)),(2,iv (↑n:Int)),(7,nilS),(12,V.lst 3 (chl x)),(13,iv (↑(chl x).length:Int)),(14,iv (0:Int))]) (Hp.mk [] 0 []))) (by kernel_rfl) ?_)
 refine La.of (σ:=Nat) (fun i=>fa31 x y n (shA n (x.take i) y) i) (fun i=>i≤x.length) (fun i=>x.length - i) 0 (by kernel_rfl) (by omega) ?_
 rintro i g1 J hJ
 obtain ⟨l,hl⟩ : ∃ l,l=shA n (x.take i) y:=⟨_,rfl⟩
 have hll:l.length≤1000000:=by
  have h1:=shA_len n y (x.take i)
  rw [List.length_take,← hl] at h1
  have h2:min i x.length * y.length≤1000 * 1000:=Nat.mul_le_mul (by omega) hy
  omega
 rw [← hl]
 have inner : ∀ (a:Ch),x[i]? = some a→La 0 [(1:Tmp),(2:Tmp),(7:Tmp),(9:Tmp),(12:Tmp),(13:Tmp),(14:Tmp),(18:Tmp),(19:Tmp),(20:Tmp)] (WY Try.prog cfS 2986 (Env.mk (Bs.mk 0 []) 0 none 40 77 2) (cdAt [1,1,0,1,0,0,1,1,0,0,1,1,0,0] (bodyOf Try.f77))) (Qblk 2 (Qblk 1 (Qthen (WY Try.prog cfS 2991 (Env.mk (Bs.mk 0 []) 0 none 40 77 0) (cdAt [1,1,0,1,0,0,1,1,1] (bodyOf Try.f77)) (Qla 0 [(1:Tmp),(2:Tmp),(7:Tmp),(12:Tmp),(13:Tmp),(14:Tmp)] J (Qblk 0 (Qthen (WY Try.prog cfS 2997 (Env.mk (Bs.mk 0 []) 0 none 40 77 0) (cdAt [1,1,1] (bodyOf Try.f77)) (QendX Try.prog Try.f77 fun v h=>R (frzW h v))) (QendX Try.prog Try.f77 fun v h=>R (frzW h v)))))) (Qla 0 [(1:Tmp),(2:Tmp),(7:Tmp),(12:Tmp),(13:Tmp),(14:Tmp)] J (Qblk 0 (Qthen (WY Try.prog cfS 2997 (Env.mk (Bs.mk 0 []) 0 none 40 77 0) (cdAt [1,1,1] (bodyOf Try.f77)) (QendX Try.prog Try.f77 fun v h=>R (frzW h v))) (QendX Try.prog Try.f77 fun v h=>R (frzW h v)))))))) (fb31 x y n l i a 0):=by
  intro a ha
  have hi:i<x.length:=(List.getElem?_eq_some_iff.1 ha).1
  obtain ⟨a1,a2,a3,a4⟩:=hxo a (List.mem_of_getElem? ha)
  refine La.of (σ:=Nat) (fun k=>fb31 x y n (l++shR n a (y.take k)) i a k) (fun k=>k≤y.length) (fun k=>y.length - k) 0 (by simp [shR]) (by omega) ?_
  rintro k g2 I hI
  obtain ⟨L,hL⟩ : ∃ L,L=l++shR n a (y.take k):=⟨_,rfl⟩
  have hLl:L.length≤1001000:=by
   have h1:=shR_len n a (y.take k)
   rw [List.length_take] at h1
   rw [hL,List.length_append]
   omega
  rw [← hL]
  have step : ∀ b,y[k]? = some b → ∀ (hk:k<y.length),I (fb31 x y n (L++if a.1 &&& b.1=0 then [shOf n a b] else []) i a (k+1)):=by
   intro b hb hk
   have:=hI (k+1) hk (by omega)
   rwa [shR_succ hb,← List.append_assoc,← hL] at this
  have done:k=y.length→J (fa31 x y n L (i+1)):=by
   intro hk
   have:=hJ (i+1) hi (by omega)
   rw [hk,List.take_length] at hL
   rwa [shA_succ ha,← hl,← hL] at this
  have hrow : ∀ b,y[k]? = some b→(chl y)[k]? = some (chr b):=fun b hb=>by simp [chl,hb]
  have cond : ∀ b:Ch,b.1<256→(IntKind.u8.wrap (((BitVec.ofInt 8 (a.1:Int) &&& BitVec.ofInt 8 (b.1:Int)).toNat:Nat):Int)==(0:Int))=decide (a.1 &&& b.1=0):=fun b hb=>by
   rw [and8 a1 hb]
   by_cases e:a.1 &&& b.1=0
   ·rw [e]; rfl
   ·rw [decide_eq_false e]; simp; omega
  cases hc:L with
  | nil =>
   refine see (p:=ifB (decide ((↑k:Int)<(↑(chl y).length:Int))) (onSome (chl y)[k]? fun row=>onCons (List.drop 0 row) fun u r=>onIntK IntKind.u8 u fun n_1=>onCons r fun u r=>onIntK IntKind.i64 u fun n_2=>onCons r fun u r=>onLst u fun s es=>ifB (IntKind.u8.wrap (↑(BitVec.ofInt 8 (↑a.1:Int) &&& BitVec.ofInt 8 n_1).toNat:Int)==(0:Int)) (K0G Try.prog glX 118 [V.agg [V.raw (Value.int IntKind.u8 (↑a.1:Int)),iv a.2.1,V.lst a.2.2.2 (itl a.2.2.1)],V.agg [V.raw (Value.int IntKind.u8 n_1),iv n_2,V.lst s es],iv (↑n:Int)] fun v=>onAgg v fun cs=>onCons cs fun u r=>onLst u fun s es=>onCons r fun u r=>onIntK IntKind.i64 u fun n_3=>onNil r (I (St.mk (mkT [(1,V.lst 3 (chl y)),(2,iv (↑n:Int)),(7,V.sl (Id.p 0) 0 1),(9,V.ptr (Id.p 1) 0 0),(12,V.lst 3 (chl x)),(13,iv (↑(chl x).length:Int)),(14,iv (↑i:Int)),(18,V.lst 3 (chl y)),(19,iv (↑(chl y).length:Int)),(20,iv (IntKind.i64.wrap ((↑k:Int)+(1:Int))))]) (Hp.mk [(0,O.rows 2 true [[V.lst s es,iv n_3]]),(1,O.rows 3 false [[V.raw (Value.int IntKind.u8 (↑a.1:Int)),iv a.2.1,V.lst a.2.2.2 (itl a.2.2.1)]])] 2 [])))) (I (St.mk (mkT [(1,V.lst 3 (chl y)),(2,iv (↑n:Int)),(7,nilS),(9,V.ptr (Id.p 0) 0 0),(12,V.lst 3 (chl x)),(13,iv (↑(chl x).length:Int)),(14,iv (↑i:Int)),(18,V.lst 3 (chl y)),(19,iv (↑(chl y).length:Int)),(20,iv (IntKind.i64.wrap ((↑k:Int)+(1:Int))))]) (Hp.mk [(0,O.rows 3 false [[V.raw (Value.int IntKind.u8 (↑a.1:Int)),iv a.2.1,V.lst a.2.2.2 (itl a.2.2.1)]])] 1 [])))) (J (St.mk (mkT [(1,V.lst 3 (chl y)),(2,iv (↑n:Int)),(7,nilS),(12,V.lst 3 (chl x)),(13,iv (↑(chl x).length:Int)),(14,iv (IntKind.i64.wrap ((↑i:Int)+(1:Int))))]) (Hp.mk [] 0 [])))) (by kernel_rfl) ?_
   rw [hc] at step done
   refine ifB_mk (fun d=>?_) (fun d=>?_) <;> rw [chl_length] at d
   ·have hk:k<y.length:=by have:=of_decide_eq_true d; omega
    obtain ⟨b,hb⟩ : ∃ b,y[k]? = some b:=⟨y[k],by simp [hk]⟩
    obtain ⟨b1,b2,b3,b4⟩:=hyo b (List.mem_of_getElem? hb)
    have st:=step b hb hk
    refine onSome_mk (hrow b hb) (onCons_cons (onIntK_u8 (onCons_cons (onIntK_iv (onCons_cons (onLst_lst ?_))))))
    rw [cond b b1,wr1i hk (by omega)]
    refine ifB_mk (fun e=>?_) (fun e=>?_)
    ·rw [if_pos (of_decide_eq_true e)] at st
     exact shareOf61 (a:=a) (b:=b) a1 b1 hn a2 b2 ⟨a3,a4⟩ ⟨b3,b4⟩ (onAgg_agg (onCons_cons (onLst_lst (onCons_cons (onIntK_iv (onNil_nil (see (by kernel_rfl) st)))))))
    ·rw [if_neg (of_decide_eq_false e)] at st
     exact see (by kernel_rfl) st
   ·have hk:k=y.length:=by have:=of_decide_eq_false d; omega
    rw [wr1i hi (by omega)]
    exact see (by kernel_rfl) (done hk)
  | cons c0 r0 =>
   rw [← hc]
   have hcn:L≠[]:=by rw [hc]; simp
   rw [fb31_s hcn]
   refine see (p:=ifB (decide ((↑k:Int)<(↑(chl y).length:Int))) (onSome (chl y)[k]? fun row=>onCons (List.drop 0 row) fun u r=>onIntK IntKind.u8 u fun n_1=>onCons r fun u r=>onIntK IntKind.i64 u fun n_2=>onCons r fun u r=>onLst u fun s es=>ifB (IntKind.u8.wrap (↑(BitVec.ofInt 8 (↑a.1:Int) &&& BitVec.ofInt 8 n_1).toNat:Int)==(0:Int)) (K0G Try.prog glX 118 [V.agg [V.raw (Value.int IntKind.u8 (↑a.1:Int)),iv a.2.1,V.lst a.2.2.2 (itl a.2.2.1)],V.agg [V.raw (Value.int IntKind.u8 n_1),iv n_2,V.lst s es],iv (↑n:Int)] fun v=>onAgg v fun cs=>onCons cs fun u r=>onLst u fun s es=>onCons r fun u r=>onIntK IntKind.i64 u fun n_3=>onNil r (need ((L.length+1) * 32≤140737488355328) (I (St.mk (mkT [(1,V.lst 3 (chl y)),(2,iv (↑n:Int)),(7,V.sl (Id.p 0) 0 (L.length+1)),(9,V.ptr (Id.p 1) 0 0),(12,V.lst 3 (chl x)),(13,iv (↑(chl x).length:Int)),(14,iv (↑i:Int)),(18,V.lst 3 (chl y)),(19,iv (↑(chl y).length:Int)),(20,iv (IntKind.i64.wrap ((↑k:Int)+(1:Int))))]) (Hp.mk [(0,O.rows 2 true (List.take L.length (shl L)++[[V.lst s es,iv n_3]])),(1,O.rows 3 false [[V.raw (Value.int IntKind.u8 (↑a.1:Int)),iv a.2.1,V.lst a.2.2.2 (itl a.2.2.1)]])] 2 []))))) (I (St.mk (mkT [(1,V.lst 3 (chl y)),(2,iv (↑n:Int)),(7,V.sl (Id.p 0) 0 L.length),(9,V.ptr (Id.p 1) 0 0),(12,V.lst 3 (chl x)),(13,iv (↑(chl x).length:Int)),(14,iv (↑i:Int)),(18,V.lst 3 (chl y)),(19,iv (↑(chl y).length:Int)),(20,iv (IntKind.i64.wrap ((↑k:Int)+(1:Int))))]) (Hp.mk [(0,O.rows 2 true (shl L)),(1,O.rows 3 false [[V.raw (Value.int IntKind.u8 (↑a.1:Int)),iv a.2.1,V.lst a.2.2.2 (itl a.2.2.1)]])] 2 [])))) (J (St.mk (mkT [(1,V.lst 3 (chl y)),(2,iv (↑n:Int)),(7,V.sl (Id.p 0) 0 L.length),(12,V.lst 3 (chl x)),(13,iv (↑(chl x).length:Int)),(14,iv (IntKind.i64.wrap ((↑i:Int)+(1:Int))))]) (Hp.mk [(0,O.rows 2 true (shl L))] 1 [])))) (by kernel_rfl) ?_
   refine ifB_mk (fun d=>?_) (fun d=>?_) <;> rw [chl_length] at d
   ·have hk:k<y.length:=by have:=of_decide_eq_true d; omega
    obtain ⟨b,hb⟩ : ∃ b,y[k]? = some b:=⟨y[k],by simp [hk]⟩
    obtain ⟨b1,b2,b3,b4⟩:=hyo b (List.mem_of_getElem? hb)
    have st:=step b hb hk
    refine onSome_mk (hrow b hb) (onCons_cons (onIntK_u8 (onCons_cons (onIntK_iv (onCons_cons (onLst_lst ?_))))))
    rw [cond b b1,wr1i hk (by omega)]
    refine ifB_mk (fun e=>?_) (fun e=>?_)
    ·rw [if_pos (of_decide_eq_true e),fb31_s (by simp)] at st
     refine shareOf61 (a:=a) (b:=b) a1 b1 hn a2 b2 ⟨a3,a4⟩ ⟨b3,b4⟩ (onAgg_agg (onCons_cons (onLst_lst (onCons_cons (onIntK_iv (onNil_nil (need_mk ⟨by omega,?_⟩)))))))
     rw [shl_take]
     refine hJ' ?_ st
     simp only [sh31sb,shl,shr,shOf,List.map_append,List.length_append,List.length_singleton,List.map_cons,List.map_nil]
     rfl
    ·rw [if_neg (of_decide_eq_false e),List.append_nil,fb31_s hcn] at st
     exact see (by kernel_rfl) st
   ·have hk:k=y.length:=by have:=of_decide_eq_false d; omega
    rw [wr1i hi (by omega)]
    have:=done hk
    rw [fa31_s hcn] at this
    exact see (by kernel_rfl) this
 cases hc:l with
 | nil =>
  rw [hc] at inner
  refine see (p:=ifB (decide ((↑i:Int)<(↑(chl x).length:Int))) (onSome (chl x)[i]? fun row=>onCons (List.drop 0 row) fun u r=>onIntK IntKind.u8 u fun n_1=>onCons r fun u r=>onIntK IntKind.i64 u fun n_2=>onCons r fun u r=>onLst u fun s es=>La 0 [(1:Tmp),(2:Tmp),(7:Tmp),(9:Tmp),(12:Tmp),(13:Tmp),(14:Tmp),(18:Tmp),(19:Tmp),(20:Tmp)] (WY Try.prog cfS 2986 (Env.mk (Bs.mk 0 []) 0 none 40 77 2) (cdAt [1,1,0,1,0,0,1,1,0,0,1,1,0,0] (bodyOf Try.f77))) (Qblk 2 (Qblk 1 (Qthen (WY Try.prog cfS 2991 (Env.mk (Bs.mk 0 []) 0 none 40 77 0) (cdAt [1,1,0,1,0,0,1,1,1] (bodyOf Try.f77)) (Qla 0 [(1:Tmp),(2:Tmp),(7:Tmp),(12:Tmp),(13:Tmp),(14:Tmp)] J (Qblk 0 (Qthen (WY Try.prog cfS 2997 (Env.mk (Bs.mk 0 []) 0 none 40 77 0) (cdAt [1,1,1] (bodyOf Try.f77)) (QendX Try.prog Try.f77 fun v h=>R (frzW h v))) (QendX Try.prog Try.f77 fun v h=>R (frzW h v)))))) (Qla 0 [(1:Tmp),(2:Tmp),(7:Tmp),(12:Tmp),(13:Tmp),(14:Tmp)] J (Qblk 0 (Qthen (WY Try.prog cfS 2997 (Env.mk (Bs.mk 0 []) 0 none 40 77 0) (cdAt [1,1,1] (bodyOf Try.f77)) (QendX Try.prog Try.f77 fun v h=>R (frzW h v))) (QendX Try.prog Try.f77 fun v h=>R (frzW h v)))))))) (St.mk (mkT [(1,V.lst 3 (chl y)),(2,iv (↑n:Int)),(7,nilS),(9,V.ptr (Id.p 0) 0 0),(12,V.lst 3 (chl x)),(13,iv (↑(chl x).length:Int)),(14,iv (↑i:Int)),(18,V.lst 3 (chl y)),(19,iv (↑(chl y).length:Int)),(20,iv (0:Int))]) (Hp.mk [(0,O.rows 3 false [[V.raw (Value.int IntKind.u8 n_1),iv n_2,V.lst s es]])] 1 []))) (R nilS)) (by kernel_rfl) ?_
  refine ifB_mk (fun d=>?_) (fun d=>?_) <;> rw [chl_length] at d
  ·have hi:i<x.length:=by have:=of_decide_eq_true d; omega
   obtain ⟨a,ha⟩ : ∃ a,x[i]? = some a:=⟨x[i],by simp [hi]⟩
   refine onSome_mk (x:=chr a) (by simp [chl,ha]) (onCons_cons (onIntK_u8 (onCons_cons (onIntK_iv (onCons_cons (onLst_lst ?_))))))
   have:=inner a ha
   exact see (by kernel_rfl) this
  ·have hi:i=x.length:=by have:=of_decide_eq_false d; omega
   rw [hi,List.take_length] at hl
   exact (hne (by rw [← hl,hc])).elim
 | cons c0 r0 =>
  rw [← hc]
  have hcn:l≠[]:=by rw [hc]; simp
  rw [fa31_s hcn]
  refine see (p:=ifB (decide ((↑i:Int)<(↑(chl x).length:Int))) (onSome (chl x)[i]? fun row=>onCons (List.drop 0 row) fun u r=>onIntK IntKind.u8 u fun n_1=>onCons r fun u r=>onIntK IntKind.i64 u fun n_2=>onCons r fun u r=>onLst u fun s es=>La 0 [(1:Tmp),(2:Tmp),(7:Tmp),(9:Tmp),(12:Tmp),(13:Tmp),(14:Tmp),(18:Tmp),(19:Tmp),(20:Tmp)] (WY Try.prog cfS 2986 (Env.mk (Bs.mk 0 []) 0 none 40 77 2) (cdAt [1,1,0,1,0,0,1,1,0,0,1,1,0,0] (bodyOf Try.f77))) (Qblk 2 (Qblk 1 (Qthen (WY Try.prog cfS 2991 (Env.mk (Bs.mk 0 []) 0 none 40 77 0) (cdAt [1,1,0,1,0,0,1,1,1] (bodyOf Try.f77)) (Qla 0 [(1:Tmp),(2:Tmp),(7:Tmp),(12:Tmp),(13:Tmp),(14:Tmp)] J (Qblk 0 (Qthen (WY Try.prog cfS 2997 (Env.mk (Bs.mk 0 []) 0 none 40 77 0) (cdAt [1,1,1] (bodyOf Try.f77)) (QendX Try.prog Try.f77 fun v h=>R (frzW h v))) (QendX Try.prog Try.f77 fun v h=>R (frzW h v)))))) (Qla 0 [(1:Tmp),(2:Tmp),(7:Tmp),(12:Tmp),(13:Tmp),(14:Tmp)] J (Qblk 0 (Qthen (WY Try.prog cfS 2997 (Env.mk (Bs.mk 0 []) 0 none 40 77 0) (cdAt [1,1,1] (bodyOf Try.f77)) (QendX Try.prog Try.f77 fun v h=>R (frzW h v))) (QendX Try.prog Try.f77 fun v h=>R (frzW h v)))))))) (St.mk (mkT [(1,V.lst 3 (chl y)),(2,iv (↑n:Int)),(7,V.sl (Id.p 0) 0 l.length),(9,V.ptr (Id.p 1) 0 0),(12,V.lst 3 (chl x)),(13,iv (↑(chl x).length:Int)),(14,iv (↑i:Int)),(18,V.lst 3 (chl y)),(19,iv (↑(chl y).length:Int)),(20,iv (0:Int))]) (Hp.mk [(0,O.rows 2 true (shl l)),(1,O.rows 3 false [[V.raw (Value.int IntKind.u8 n_1),iv n_2,V.lst s es]])] 2 []))) (R (V.lst 2 (sub (shl l) 0 l.length)))) (by kernel_rfl) ?_
  refine ifB_mk (fun d=>?_) (fun d=>?_)
  ·rw [chl_length] at d
   have hi:i<x.length:=by have:=of_decide_eq_true d; omega
   obtain ⟨a,ha⟩ : ∃ a,x[i]? = some a:=⟨x[i],by simp [hi]⟩
   refine onSome_mk (x:=chr a) (by simp [chl,ha]) (onCons_cons (onIntK_u8 (onCons_cons (onIntK_iv (onCons_cons (onLst_lst ?_))))))
   have:=inner a ha
   rw [fb31_s hcn] at this
   exact see (by kernel_rfl) this
  ·rw [chl_length] at d
   have hi:i=x.length:=by have:=of_decide_eq_false d; omega
   rw [hi,List.take_length] at hl
   rw [show sub (shl l) 0 l.length=shl l from by rw [← shl_length]; exact sub_all _,hl]
   exact h
theorem cho_empty (bx:List It) (p:List (List It)) (v:List Int):choF p v (bl8 0) 0 bx=some (0,bx):=by
 have:bl8 0=[]:=by decide +kernel
 rw [this]; rfl
set_option maxRecDepth 100000
def kpDM:FuncId→Nat→Option (List Tmp):=slotsOf [(35,0,[0,3,4]),(39,0,[0,3]),(40,0,[0,1,2,9,10,11,12]),(40,2,[0,1,2,9,10,11,12,13]),(41,0,[1,6,9,10,11]),(42,0,[0,1,7,8,9]),(13,0,[13,14,15]),(15,0,[0,1,5]),(16,0,[0,4,5]),(96,0,[0,1,2,7]),(37,0,[4,10,11,12])]
def moDM (f:FuncId):Nat:=0
def tyDM (f:FuncId):Option TypeId:=none
noncomputable def cfDM:Cfg:=cfgM Try.prog glX moDM tyDM (inN [43,44,57,105,106,125,131,138,94,95,91,36,8]) kpDM
noncomputable def sh42M (l:List It) (k:Nat):St:=⟨mkT [(0,V.lst 3 (itl l)),(1,V.fn (Fn.func 43) [] []),(7,V.lst 3 (itl l)),(8,iv ((itl l).length:Int)),(9,iv (k:Int))],⟨[],0,[]⟩⟩
noncomputable def sh13M (l:List It) (k:Nat):St:=⟨mkT [(13,V.lst 3 (itl l)),(14,iv ((itl l).length:Int)),(15,iv (k:Int))],⟨[],0,[]⟩⟩
noncomputable def sh39M (l:List It) (k:Nat):St:=⟨mkT [(0,V.lst 3 (itl l)),(3,iv (k:Int))],⟨[],0,[]⟩⟩
noncomputable def sh96M (l:List It) (a b:Int) (k:Nat):St:=⟨mkT [(0,V.lst 3 (itl l)),(1,iv a),(2,u8v b),(7,iv (k:Int))],⟨[],0,[]⟩⟩
noncomputable def sh15M (s s' : Nat) (l m:List It) (k:Nat):St:=⟨mkT [(0,V.lst s (itl l)),(1,V.lst s' (itl m)),(5,iv (k:Int))],⟨[],0,[]⟩⟩
set_option maxRecDepth 10000
theorem hcDM:cfDM.ok Try.prog:=cfgM_ok
theorem ifB_fM {b:Bool} {p q:Prop} (hb:b=false) (h:q):ifB b p q:=by subst hb; exact h
theorem onIntK_u8M {n:Int} {k:Int→Prop} (h:k n):onIntK .u8 (u8v n) k:=h
theorem hJ'M {J:St→Prop} {s s' : St} (he:s=s') (h:J s'):J s:=he ▸ h
theorem itl_lengthM (l:List It):(itl l).length=l.length:=by simp [itl]
theorem itl_getM {l:List It} {i:Nat} {x:It} (h:l[i]? = some x):(itl l)[i]? = some (itm x):=by simp [itl,h]
theorem wr1iM {i n:Nat} (h:i<n) (hn:(n:Int)≤9223372036854775807):IntKind.i64.wrap ((i:Int)+1)=((i+1:Nat):Int):=by rw [wr (by omega) (by omega)]; simp
theorem getIM {α:Type} {l:List α} {k:Nat} (h:k<l.length) : ∃ x,l[k]? = some x:=⟨l[k],by simp [h]⟩
noncomputable def dcM (p:Prop):Bool:=@decide p (Classical.propDecidable p)
theorem dc_tM {p:Prop} (h:p):dcM p=true:=by simp [dcM,h]
theorem dc_fM {p:Prop} (h : ¬ p):dcM p=false:=by simp [dcM,h]
theorem dc_trueM {p:Prop} (h:dcM p=true):p:=by simpa [dcM] using h
theorem dc_falseM {p:Prop} (h:dcM p=false) : ¬ p:=by simpa [dcM] using h
theorem rtM {p:Prop} {R:V→Prop} (h:R (bv (dcM p))) (hp:p):R (bv true):=by rw [dc_tM hp] at h; exact h
theorem rfM {p:Prop} {R:V→Prop} (h:R (bv (dcM p))) (hp : ¬ p):R (bv false):=by rw [dc_fM hp] at h; exact h
def BefM (x y:It):Prop:=x.1<y.1∨x.1=y.1∧x.2.1<y.2.1
def cfPM (x y:It):Int:=if x.1<y.1 then -1 else if y.1<x.1 then 1 else if x.2.1<y.2.1 then -1 else if y.2.1<x.2.1 then 1 else 0
theorem cfP_ltM {x y:It}:cfPM x y<0↔BefM x y:=by
 unfold cfPM BefM
 split
 ·simp; omega
 ·split
  ·simp; omega
  ·split
   ·simp; omega
   ·split <;> simp <;> omega
theorem parts97M {a b c d:Int} {R:V→Prop} (h:R (iv (cfPM (a,b,0) (c,d,0)))):K0G Try.prog glX 97 [.agg [iv a,u8v b],.agg [iv c,u8v d]] R:=by
 refine K0_of_WY0 hmX hcDM 3000 Try.func97 (see (p:=ifB (a != a) (ifB (c != c) (ifB (b != b) (ifB (d != d) (R (iv (0:Int))) (R (iv (-1:Int)))) (ifB (d != d) (R (iv (1:Int))) (ifB (decide (b<d)) (R (iv (-1:Int))) (ifB (decide (b > d)) (R (iv (1:Int))) (R (iv (0:Int))))))) (ifB (b != b) (ifB (d != d) (R (iv (-1:Int))) (R (iv (-1:Int)))) (ifB (d != d) (R (iv (-1:Int))) (ifB (decide (b<d)) (R (iv (-1:Int))) (ifB (decide (b > d)) (R (iv (-1:Int))) (R (iv (-1:Int)))))))) (ifB (c != c) (ifB (b != b) (ifB (d != d) (R (iv (1:Int))) (R (iv (1:Int)))) (ifB (d != d) (R (iv (1:Int))) (ifB (decide (b<d)) (R (iv (1:Int))) (ifB (decide (b > d)) (R (iv (1:Int))) (R (iv (1:Int))))))) (ifB (decide (a<c)) (ifB (b != b) (ifB (d != d) (R (iv (-1:Int))) (R (iv (-1:Int)))) (ifB (d != d) (R (iv (-1:Int))) (ifB (decide (b<d)) (R (iv (-1:Int))) (ifB (decide (b > d)) (R (iv (-1:Int))) (R (iv (-1:Int))))))) (ifB (decide (a > c)) (ifB (b != b) (ifB (d != d) (R (iv (1:Int))) (R (iv (1:Int)))) (ifB (d != d) (R (iv (1:Int))) (ifB (decide (b<d)) (R (iv (1:Int))) (ifB (decide (b > d)) (R (iv (1:Int))) (R (iv (1:Int))))))) (ifB (b != b) (ifB (d != d) (R (iv (0:Int))) (R (iv (-1:Int)))) (ifB (d != d) (R (iv (1:Int))) (ifB (decide (b<d)) (R (iv (-1:Int))) (ifB (decide (b > d)) (R (iv (1:Int))) (R (iv (0:Int))))))))))) (by kernel_rfl) ?_)
 simp only [bne_self_eq_false]
 unfold cfPM at h
 simp only at h
 refine ifB_fM rfl (ifB_fM rfl (ifB_mk (fun h1=>?_) (fun h1=>ifB_mk (fun h2=>?_) (fun h2=>?_))))
 ·rw [if_pos (of_decide_eq_true h1)] at h
  refine ifB_fM rfl (ifB_fM rfl (ifB_mk (fun _=>?_) (fun _=>ifB_mk (fun _=>?_) (fun _=>?_)))) <;> exact h
 ·rw [if_neg (of_decide_eq_false h1),if_pos (show c<a from of_decide_eq_true h2)] at h
  refine ifB_fM rfl (ifB_fM rfl (ifB_mk (fun _=>?_) (fun _=>ifB_mk (fun _=>?_) (fun _=>?_)))) <;> exact h
 ·rw [if_neg (of_decide_eq_false h1),if_neg (show ¬ c<a from of_decide_eq_false h2)] at h
  refine ifB_fM rfl (ifB_fM rfl (ifB_mk (fun h3=>?_) (fun h3=>ifB_mk (fun h4=>?_) (fun h4=>?_))))
  ·rw [if_pos (of_decide_eq_true h3)] at h; exact h
  ·rw [if_neg (of_decide_eq_false h3),if_pos (show d<b from of_decide_eq_true h4)] at h; exact h
  ·rw [if_neg (of_decide_eq_false h3),if_neg (show ¬ d<b from of_decide_eq_false h4)] at h; exact h
def OrdM (l:List It):Prop := ∀ (i:Nat) (x y:It),l[i]? = some x→l[i+1]? = some y→BefM x y
def OkpM (x:It):Prop:=0≤x.1∧x.1≤15∧x.2.1≤15
theorem order42M {l:List It} {R:V→Prop} (hl:l.length≤1000) (h:R (bv (dcM (OrdM l ∧ ∀ x∈l,OkpM x)))):K0G Try.prog glX 42 [.lst 3 (itl l),.fn (.func 43) [] []] R:=by
 refine K0_of_WY0 hmX hcDM 3000 Try.func42 (see (p:=La 0 [(0:Tmp),(1:Tmp),(7:Tmp),(8:Tmp),(9:Tmp)] (WY Try.prog cfDM 2995 (Env.mk (Bs.mk 0 []) 0 none 38 42 0) (cdAt [1,0,1,0,0] (bodyOf Try.f42))) (Qblk 0 (Qthen (WY Try.prog cfDM 2998 (Env.mk (Bs.mk 0 []) 0 none 38 42 0) (cdAt [1,1] (bodyOf Try.f42)) (QendX Try.prog Try.f42 fun v h=>R (frzW h v))) (QendX Try.prog Try.f42 fun v h=>R (frzW h v)))) (St.mk (mkT [(0,V.lst 3 (itl l)),(1,V.fn (Fn.func (43:FuncId)) [] []),(7,V.lst 3 (itl l)),(8,iv (↑(itl l).length:Int)),(9,iv (0:Int))]) (Hp.mk [] 0 []))) (by kernel_rfl) ?_)
 refine La.of (σ:=Nat) (fun k=>sh42M l k) (fun k=>k≤l.length∧(∀ (i:Nat) (x y:It),i+1<k→l[i]? = some x→l[i+1]? = some y→BefM x y) ∧ ∀ (i:Nat) (x:It),i<k→l[i]? = some x→OkpM x) (fun k=>l.length - k) 0 (by kernel_rfl) ⟨by simp,by simp,by simp⟩ ?_
 rintro k ⟨g1,g2,g3⟩ J hJ
 refine see (p:=ifB (decide ((↑k:Int)<(↑(itl l).length:Int))) (onSome (itl l)[k]? fun row=>onCons (List.drop 0 row) fun u r=>onIntK IntKind.i64 u fun n=>onCons r fun u r=>onIntK IntKind.u8 u fun n_1=>onCons r fun u r=>onIntK IntKind.i64 u fun n_2=>ifB (decide ((0:Int)≤n)) (ifB (decide (n≤(15:Int))) (ifB (!decide (n_1≤(15:Int))) (R (bv false)) (ifB (decide ((↑k:Int) > (0:Int))) (onNat (IntKind.i64.wrap ((↑k:Int) - (1:Int))) fun m=>onSome (itl l)[m]? fun row=>onCons (List.drop 0 row) fun u r=>onIntK IntKind.i64 u fun n_3=>onCons r fun u r=>onIntK IntKind.u8 u fun n_4=>onCons r fun u r=>onIntK IntKind.i64 u fun n_5=>K0G Try.prog glX 97 [V.agg [iv n_3,V.raw (Value.int IntKind.u8 n_4)],V.agg [iv n,V.raw (Value.int IntKind.u8 n_1)]] fun v=>onIntK IntKind.i64 v fun n=>ifB (decide (n ≥ (0:Int))) (R (bv false)) (J (St.mk (mkT [(0,V.lst 3 (itl l)),(1,V.fn (Fn.func (43:FuncId)) [] []),(7,V.lst 3 (itl l)),(8,iv (↑(itl l).length:Int)),(9,iv (IntKind.i64.wrap ((↑k:Int)+(1:Int))))]) (Hp.mk [] 0 [])))) (J (St.mk (mkT [(0,V.lst 3 (itl l)),(1,V.fn (Fn.func (43:FuncId)) [] []),(7,V.lst 3 (itl l)),(8,iv (↑(itl l).length:Int)),(9,iv (IntKind.i64.wrap ((↑k:Int)+(1:Int))))]) (Hp.mk [] 0 []))))) (R (bv false))) (R (bv false))) (R (bv true))) (by kernel_rfl) ?_
 simp only [itl_lengthM]
 refine ifB_mk (fun hb=>?_) (fun hb=>?_)
 ·have hlt:k<l.length:=by have:=of_decide_eq_true hb; omega
  obtain ⟨x,hx⟩:=getIM hlt
  have bad : ¬ OkpM x→R (bv false):=fun hn=>rfM h (fun hp=>hn (hp.2 x (List.mem_of_getElem? hx)))
  refine onSome_mk (itl_getM hx) (onCons_cons (onIntK_iv (onCons_cons (onIntK_u8M (onCons_cons (onIntK_iv ?_))))))
  refine ifB_mk (fun a1=>ifB_mk (fun a2=>ifB_mk (fun a3=>bad (fun hp=>by have:=hp.2.2; simp at a3; omega)) (fun a3=>?_)) (fun a2=>bad (fun hp=>absurd hp.2.1 (of_decide_eq_false a2)))) (fun a1=>bad (fun hp=>absurd hp.1 (of_decide_eq_false a1)))
  have hok:OkpM x:=⟨of_decide_eq_true a1,of_decide_eq_true a2,by simpa using a3⟩
  rw [wr1iM hlt (by omega)]
  have go:(0<k → ∀ y,l[k - 1]? = some y→BefM y x)→J (sh42M l (k+1)):=fun hbef=>hJ (k+1) ⟨by omega,fun i y z hi hy hz=>by
   rcases Nat.lt_succ_iff_lt_or_eq.1 hi with q | q
   ·exact g2 i y z q hy hz
   ·rw [q] at hz
    rw [hx] at hz
    cases hz
    exact hbef (by omega) y (by rw [show k - 1=i from by omega]; exact hy),fun i y hi hy=>by
   rcases Nat.lt_succ_iff_lt_or_eq.1 hi with q | q
   ·exact g3 i y q hy
   ·rw [q,hx] at hy; cases hy; exact hok⟩ (by omega)
  have go' : (0<k → ∀ y,l[k - 1]? = some y→BefM y x)→J ⟨mkT [(0,V.lst 3 (itl l)),(1,V.fn (Fn.func 43) [] []),(7,V.lst 3 (itl l)),(8,iv (l.length:Int)),(9,iv ((k+1:Nat):Int))],⟨[],0,[]⟩⟩:=fun hbef=>hJ'M (by simp [sh42M,itl_lengthM]) (go hbef)
  refine ifB_mk (fun hk=>?_) (fun hk=>go' (fun h0=>by have:=of_decide_eq_false hk; omega))
  have hk0:0<k:=by have:=of_decide_eq_true hk; omega
  obtain ⟨y,hy⟩:=getIM (l:=l) (k:=k - 1) (by omega)
  refine onNat_mk (m:=k - 1) (by rw [wr (by omega) (by omega)]; omega) ?_
  refine onSome_mk (itl_getM hy) (onCons_cons (onIntK_iv (onCons_cons (onIntK_u8M (onCons_cons (onIntK_iv ?_))))))
  have hb:BefM y x↔cfPM (y.1,y.2.1,0) (x.1,x.2.1,0)<0:=by rw [cfP_ltM]; rfl
  refine parts97M (onIntK_iv (ifB_mk (fun hc=>rfM h (fun hp=>?_)) (fun hc=>go' (fun _ y' hy' => ?_))))
  ·have:=hb.1 (hp.1 (k - 1) y x hy (by rw [show k - 1+1=k from by omega]; exact hx))
   have:=of_decide_eq_true hc
   omega
  ·rw [hy] at hy'
   cases hy'
   exact hb.2 (by have:=of_decide_eq_false hc; omega)
 ·have hk:k=l.length:=by have:=of_decide_eq_false hb; omega
  refine rtM h ⟨fun i x y hx hy=>g2 i x y ?_ hx hy,fun x hx=>?_⟩
  ·have:=(List.getElem?_eq_some_iff.1 hy).1; omega
  ·obtain ⟨i,hi⟩:=List.getElem?_of_mem hx
   exact g3 i x (by have:=(List.getElem?_eq_some_iff.1 hi).1; omega) hi
def StkM (l:List It):Prop:=l.length≤30∧OrdM l∧(∀ x∈l,OkpM x) ∧ ∀ x∈l,1≤x.2.2∧x.2.2≤1000
noncomputable def stkEM (l:List It):Int:=if dcM (StkM l)=true then 0 else 8
theorem stk0M {l:List It} {R:V→Prop} (h:R (iv (stkEM l))) (hs:StkM l):R (iv 0):=by rw [stkEM,if_pos (dc_tM hs)] at h; exact h
theorem stk8M {l:List It} {R:V→Prop} (h:R (iv (stkEM l))) (hs : ¬ StkM l):R (iv 8):=by rw [stkEM,if_neg (by rw [dc_fM hs]; simp)] at h; exact h
theorem check13M {l:List It} {R:V→Prop} (h:R (iv (stkEM l))):K0G Try.prog glX 13 [.lst 3 (itl l)] R:=by
 refine K0_of_WY0 hmX hcDM 3000 Try.func13 (see (p:=ifB (decide ((↑(itl l).length:Int) > (30:Int))) (R (iv (8:Int))) (K0G Try.prog glX 42 [V.lst 3 (itl l),V.fn (Fn.func 43) [] []] fun v=>onBool v fun b=>ifB (!b) (R (iv (8:Int))) (La 0 [(13:Tmp),(14:Tmp),(15:Tmp)] (WY Try.prog cfDM 2994 (Env.mk (Bs.mk 0 []) 0 none 24 13 0) (cdAt [1,1,0,1,0,0] (bodyOf Try.f13))) (Qblk 0 (Qthen (WY Try.prog cfDM 2997 (Env.mk (Bs.mk 0 []) 0 none 24 13 0) (cdAt [1,1,1] (bodyOf Try.f13)) (QendX Try.prog Try.f13 fun v h=>R (frzW h v))) (QendX Try.prog Try.f13 fun v h=>R (frzW h v)))) (St.mk (mkT [(13,V.lst 3 (itl l)),(14,iv (↑(itl l).length:Int)),(15,iv (0:Int))]) (Hp.mk [] 0 []))))) (by kernel_rfl) ?_)
 have bad:=fun hn=>stk8M (R:=R) h hn
 rw [itl_lengthM]
 refine ifB_mk (fun hl=>bad (fun hs=>by have:=of_decide_eq_true hl; have:=hs.1; omega)) (fun hl=>?_)
 have hl:l.length≤30:=by have:=of_decide_eq_false hl; omega
 refine order42M (by omega) (onBool_bv (ifB_mk (fun hb=>bad (fun hs=>?_)) (fun hbt=>?_)))
 ·rw [dc_tM ⟨hs.2.1,hs.2.2.1⟩] at hb; simp at hb
 obtain ⟨o1,o2⟩:OrdM l ∧ ∀ x∈l,OkpM x:=by
  cases hq:dcM (OrdM l ∧ ∀ x∈l,OkpM x) with
  | true=>exact dc_trueM hq
  | false=>rw [hq] at hbt; cases hbt
 refine La.of (σ:=Nat) (fun k=>sh13M l k) (fun k=>k≤l.length ∧ ∀ (i:Nat) (x:It),i<k→l[i]? = some x→1≤x.2.2∧x.2.2≤1000) (fun k=>l.length - k) 0 (by rw [← itl_lengthM]; kernel_rfl) ⟨by simp,by simp⟩ ?_
 rintro k ⟨g1,g3⟩ J hJ
 refine see (p:=ifB (decide ((↑k:Int)<(↑(itl l).length:Int))) (onSome (itl l)[k]? fun row=>onCons (List.drop 0 row) fun u r=>onIntK IntKind.i64 u fun n=>onCons r fun u r=>onIntK IntKind.u8 u fun n=>onCons r fun u r=>onIntK IntKind.i64 u fun n=>ifB (decide ((1:Int)≤n)) (ifB (!decide (n≤(1000:Int))) (R (iv (8:Int))) (J (St.mk (mkT [(13,V.lst 3 (itl l)),(14,iv (↑(itl l).length:Int)),(15,iv (IntKind.i64.wrap ((↑k:Int)+(1:Int))))]) (Hp.mk [] 0 [])))) (R (iv (8:Int)))) (R (iv (0:Int)))) (by kernel_rfl) ?_
 simp only [itl_lengthM]
 refine ifB_mk (fun hb=>?_) (fun hb=>?_)
 ·have hlt:k<l.length:=by have:=of_decide_eq_true hb; omega
  obtain ⟨x,hx⟩:=getIM hlt
  have badx : ¬ (1≤x.2.2∧x.2.2≤1000)→R (iv 8):=fun hn=>bad (fun hs=>hn (hs.2.2.2 x (List.mem_of_getElem? hx)))
  refine onSome_mk (itl_getM hx) (onCons_cons (onIntK_iv (onCons_cons (onIntK_u8M (onCons_cons (onIntK_iv ?_))))))
  refine ifB_mk (fun a1=>ifB_mk (fun a2=>badx (fun hp=>by have:=hp.2; simp at a2; omega)) (fun a2=>?_)) (fun a1=>badx (fun hp=>absurd hp.1 (of_decide_eq_false a1)))
  rw [wr1iM hlt (by omega)]
  refine hJ'M ?_ (hJ (k+1) ⟨by omega,fun i y hi hy=>?_⟩ (by omega))
  ·simp [sh13M,itl_lengthM]
  ·rcases Nat.lt_succ_iff_lt_or_eq.1 hi with q | q
   ·exact g3 i y q hy
   ·rw [q,hx] at hy; cases hy; exact ⟨of_decide_eq_true a1,by simpa using a2⟩
 ·have hk:k=l.length:=by have:=of_decide_eq_false hb; omega
  refine stk0M h ⟨hl,o1,o2,fun x hx=>?_⟩
  obtain ⟨i,hi⟩:=List.getElem?_of_mem hx
  exact g3 i x (by have:=(List.getElem?_eq_some_iff.1 hi).1; omega) hi
end Go.Proofs.Ytmddjopahcbefaa
