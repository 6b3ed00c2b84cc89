/- A part of the proof. -/
import Derived.Test.YtbionhgjgcpogaaDoorProg
import Derived.Test.YtbionhgjgcpogaaDoorXP3G9
namespace Go.Proofs.YtbionhgjgcpogaaDoor.Clean
set_option linter.unusedVariables false
def forceN (n:Nat) (k:Nat→Prop):Prop:=match n with
 | 0=>k 0
 | m+1=>k (m+1)
def forceV (v:V) (k:V→Prop):Prop:=match v with
 | .raw x=>k (.raw x)
 | .ptr b i o=>k (.ptr b i o)
 | .sl b lo n=>k (.sl b lo n)
 | .lst s es=>k (.lst s es)
 | v=>k v
def forceRow:List V→(List V→Prop)→Prop
 | [],k=>k []
 | v::r,k=>forceV v fun v=>forceRow r fun r=>k (v::r)
def forceArg (v:V) (k:V→Prop):Prop:=match v with
 | .agg cs=>forceRow cs fun cs=>k (.agg cs)
 | .fn f a c=>forceRow a fun a=>forceRow c fun c=>k (.fn f a c)
 | v=>forceV v k
def forceArgs:List V→(List V→Prop)→Prop
 | [],k=>k []
 | v::r,k=>forceArg v fun v=>forceArgs r fun r=>k (v::r)
def forceRows:List (List V)→(List (List V)→Prop)→Prop
 | [],k=>k []
 | v::r,k=>forceRow v fun v=>forceRows r fun r=>k (v::r)
def forceO (o:O) (k:O→Prop):Prop:=match o with
 | .rows s true es=>k (.rows s true es)
 | .rows s false es=>forceRows es fun es=>k (.rows s false es)
 | .mp es=>k (.mp es)
 | .lp q=>k (.lp q)
 | .it x n l=>k (.it x n l)
def forceBs:List (Nat×O)→(List (Nat×O)→Prop)→Prop
 | [],k=>k []
 | (a,o)::r,k=>forceN a fun a=>forceO o fun o=>forceBs r fun r=>k ((a,o)::r)
def forceH (h:Hp) (k:Hp→Prop):Prop:=match h with
 | ⟨bs,n,fs⟩=>forceBs bs fun bs=>forceN n fun n=>k ⟨bs,n,fs⟩
def forceIds:List Id→(List Id→Prop)→Prop
 | [],k=>k []
 | .p n::r,k=>forceN n fun n=>forceIds r fun r=>k (.p n::r)
 | .m B j::r,k=>forceIds r fun r=>k (.m B j::r)
def keepOf (bs:List Id):Keep:=⟨[],bs.zipIdx,bs.length,[],[],[]⟩
def lentIds (h:Hp) (vs:List V):List Id:=(reach 200 h (refsL vs) []).filter fun b=>h.has b
theorem forceN_eq (n:Nat) (k:Nat→Prop):forceN n k=k n:=by cases n <;> rfl
theorem forceV_eq (v:V) (k:V→Prop):forceV v k=k v:=by cases v <;> rfl
theorem forceRow_eq : ∀ (l:List V) (k:List V→Prop),forceRow l k=k l
 | [],k=>rfl
 | v::r,k=>by rw [forceRow,forceV_eq,forceRow_eq]
theorem forceArg_eq (v:V) (k:V→Prop):forceArg v k=k v:=by
 cases v <;> first | exact forceRow_eq _ _ | (show forceRow _ _=_; rw [forceRow_eq,forceRow_eq]) | rfl
theorem forceArgs_eq : ∀ (l:List V) (k:List V→Prop),forceArgs l k=k l
 | [],k=>rfl
 | v::r,k=>by rw [forceArgs,forceArg_eq,forceArgs_eq]
theorem forceRows_eq : ∀ (l:List (List V)) (k:List (List V)→Prop),forceRows l k=k l
 | [],k=>rfl
 | v::r,k=>by rw [forceRows,forceRow_eq,forceRows_eq]
theorem forceO_eq (o:O) (k:O→Prop):forceO o k=k o:=by
 cases o with
 | rows s p es=>cases p with
  | true=>rfl
  | false=>exact forceRows_eq es _
 | mp es=>rfl
 | lp q=>rfl
 | it x n l=>rfl
theorem forceBs_eq : ∀ (l:List (Nat×O)) (k:List (Nat×O)→Prop),forceBs l k=k l
 | [],k=>rfl
 | (a,o)::r,k=>by rw [forceBs,forceN_eq,forceO_eq,forceBs_eq]
theorem forceH_eq (h:Hp) (k:Hp→Prop):forceH h k=k h:=by
 obtain ⟨bs,n,fs⟩:=h
 show forceBs bs _=_
 rw [forceBs_eq,forceN_eq]
theorem forceIds_eq : ∀ (l:List Id) (k:List Id→Prop),forceIds l k=k l
 | [],k=>rfl
 | .p n::r,k=>by rw [forceIds,forceN_eq,forceIds_eq]
 | .m B j::r,k=>by rw [forceIds,forceIds_eq]
theorem lent_eq (h:Hp) (vs:List V):lentOf h vs=keepOf (lentIds h vs):=rfl
def callsG (P:Program) (G:Nat→Option (List V)) (mode:FuncId→Nat) (post:FuncId→List V→Hp→Us→Hp) (rt:FuncId→List V→Us→V→(V→Prop)→Prop):Calling :=
 ⟨fun _=>none,mode,fun _=>false,KB P G,K0G P G,fun f args h k=>match mode f with
   | 3=>forceArgs args fun args=>forceIds (lentIds h args) fun ids=>guardB ((keepOf ids).ok&&bsOK h) (forceH (lentH h (keepOf ids)) fun h0=>KM P G f (trL (renOf (keepOf ids).blocks) args) h0 (post f args) fun v us=>guardB (mfit h (post f args h0 us) (keepOf ids).blocks) <| rt f args us v fun v =>
     forceH (mergeH h (keepOf ids) (post f args h0 us)) fun h' => forceV (v.tr (backT (keepOf ids).blocks (keepOf ids).nxt h.nxt)) fun v=>k v h')
   | _=>K P G f args h (fun _=>true) k,
  fun f args h b=>match mode f with | 3=>(lentOf h args).blocks.any fun p=>p.1.beq b | _=>true,true,0,G,fun _ _ _ _=>False,fun _=>true⟩
theorem callsG_ok {P:Program} {G:Nat→Option (List V)} {mode:FuncId→Nat} {post:FuncId→List V→Hp→Us→Hp} {rt:FuncId→List V→Us→V→(V→Prop)→Prop} (hrt : ∀ f args us v k,rt f args us v k → ∃ v', k v' ∧ ∀ {F:Nat→Prop} {w:World} {ν:Nu} {x:Value},rep F w ν v x→rep F w ν v' x):(callsG P G mode post rt).ok P:=by
 refine ⟨(fun _ _ h=>by cases h),fun _ _ _ _ _ h=>K_of_K0 h,fun _ _ _ _ _ h1 h2=>K_of_KB h1 h2,fun _ _ _ _ _ h=>K_of_K0t h,fun _ _ _ _ h hr=>h.mono hr,fun _ _ _ h=>h,?_,fun _ _ _ _ h=>h.elim⟩
 intro f args h R hc
 by_cases hm:mode f=3
 ·simp only [callsG,hm] at hc ⊢
  rw [forceArgs_eq,forceIds_eq,← lent_eq,guardB_iff,Bool.and_eq_true,forceH_eq] at hc
  obtain ⟨⟨hok,hbs⟩,hc⟩:=hc
  refine K_frame rfl hok hbs ?_
  intro ν F w xs g1 g2 g3
  refine (hc ν F w xs g1 g2 g3).mono fun e w' ⟨x,v,ν', F', h', z1,⟨es,z2,z3⟩,z4,z5,z6⟩=>?_
  have z3:=guardB_iff.1 z3
  obtain ⟨v', hk,hrv⟩:=hrt _ _ _ _ _ z3.2
  rw [forceH_eq,forceV_eq] at hk
  exact ⟨x,v', ν', F', h', z1,by rw [z2]; exact ⟨z3.1,hk⟩,z4,hrv z5,z6⟩
 ·simp only [callsG] at hc ⊢
  exact hc
noncomputable def cfgG (P:Program) (glob:Nat→Option (List V)) (mode:FuncId→Nat) (post:FuncId→List V→Hp→Us→Hp) (rt:FuncId→List V→Us→V→(V→Prop)→Prop) (enter:FuncId→Bool) (kps:FuncId→Nat→Option (List Tmp)):Cfg where
 C0:=callsG P glob mode post rt
 enter:=enter
 clean:=fun _=>true
 kps:=kps
theorem cfgG_ok {P:Program} {glob:Nat→Option (List V)} {mode:FuncId→Nat} {post:FuncId→List V→Hp→Us→Hp} {rt:FuncId→List V→Us→V→(V→Prop)→Prop} {enter:FuncId→Bool} {kps:FuncId→Nat→Option (List Tmp)} (hrt : ∀ f args us v k,rt f args us v k → ∃ v', k v' ∧ ∀ {F:Nat→Prop} {w:World} {ν:Nu} {x:Value},rep F w ν v x→rep F w ν v' x):(cfgG P glob mode post rt enter kps).ok P :=
 ⟨callsG_ok hrt,knowsY_none⟩
set_option linter.unusedSimpArgs false
noncomputable def WYKc (P:Program) (cfg:Cfg) (fuel:Nat) (f:FuncId) (fn:Func) (args:List V) (h:Hp) (R:V→Prop):Prop :=
 match fn.body with
 | some c=>guardB (Nat.ble args.length fn.ntmps&&Nat.ble args.length 1000) (WY P cfg fuel ⟨⟨h.nxt,[]⟩,h.nxt,none,fn.ntmps,f,0⟩ c (QendX P fn fun v _=>R v) ⟨start args,h⟩)
 | none=>False
noncomputable def WYB (P:Program) (cfg:Cfg) (fuel:Nat) (f:FuncId) (fn:Func) (args:List V) (h:Hp) (R:V→Prop):Prop :=
 match fn.body with
 | some c=>guardB (Nat.ble args.length fn.ntmps&&Nat.ble args.length 1000) (WY P cfg fuel ⟨⟨h.nxt,[]⟩,h.nxt,none,fn.ntmps,f,0⟩ c (QendX P fn fun v h' => dataT h.nxt (gcH h.nxt v h') v R) ⟨start args,h⟩)
 | none=>False
theorem KB_of_WYB {P:Program} (hm:P.follows .mixedOrders=true) {cfg:Cfg} (hcf:cfg.ok P) (fuel:Nat) {f:FuncId} {fn:Func} (hf:P.funcs[f]? = some fn) {args:List V} {h:Hp} {R:V→Prop} (hfs:h.fs=[]) (hw:WYB P cfg fuel f fn args h R):KB P cfg.glob f args h R:=by
 let cfg' : Cfg:={ cfg with enter:=fun _=>true,known:=fun _ _=>none,clean:=fun _=>true,spare:=fun _=>[] }
 have hc:(callY P cfg' (WY P cfg fuel) ⟨0,[]⟩ 0).c f args h (fun v h' => dataT h.nxt h' v R):=by
  show cY P cfg' (WY P cfg fuel) ⟨0,[]⟩ f args h (fun v h' => dataT h.nxt h' v R)
  unfold WYB at hw
  split at hw
  ·rename_i c hb
   simp only [cY,cfg', cond_true,onSome_iff,Cfg.baseOf]
   exact ⟨fn,hf,c,hb,hw⟩
  ·exact hw.elim
 have:=(callY_ok (cfg:=cfg') ⟨hcf.c0,knowsY_none⟩ (WY_sound hm hcf fuel) ⟨0,[]⟩ 0).c f args h _ hc
 intro ν F w xs g1 g2 g3
 refine (this ν F w xs g1 g2 g3).mono fun e w' ⟨x,v,ν', F', h', z1,z2,z3,z4,z5,z6⟩=>?_
 obtain ⟨d,d1,d2⟩:=dataT_D z2
 refine ⟨x,v,d,ν', F', h', z1,d2,d1,z3,z4,z5,fun b y hb=>z6 b y hb ?_⟩
 show tY cfg' ⟨0,[]⟩ f args h b=false
 simp only [tY,cfg', cond_true,Cfg.baseOf,Id.lows,List.any_nil,Bool.or_false]
 have hlt:=ν.lt _ _ hb
 cases b with
 | p a =>
  have:a<h.nxt:=by have h2:a<ν.nxt:=hlt; rw [g1.nxt] at h2; exact h2
  show (!Nat.blt a h.nxt)=false
  rw [show Nat.blt a h.nxt=true from Nat.ble_eq_true_of_le this]; rfl
 | m B j =>
  have h2:j<ν.cnt B:=hlt
  rw [g1.cnt B,hfs] at h2
  exact absurd h2 (Nat.not_lt_zero _)
section
variable {ν:Nu} {F:Nat→Prop} {h:Hp} {w w' : World}
theorem K_of_K0c {P:Program} {G:Nat→Option (List V)} {f:FuncId} {args:List V} {h:Hp} {R:V→Prop} (hc:closedL args=true) (hk:K0G P G f args R):K P G f args h (fun b => !b.low h.nxt) fun v _=>R v:=by
 intro ν F w xs hh hG hl
 refine (hk F w xs (fun r hr=>(hh.frz r hr).1) hG (repL_riL _ _ hc hl)).mono fun e' w' he=>?_
 obtain ⟨x,v,F'', rfl,hv,hr,hbl,q1,q2,q3⟩:=he
 obtain ⟨hh', he⟩:=heap_call0 hh hbl q1 q2 q3
 exact ⟨x,v,ν,_,_,rfl,hv,hh', ri_rep (ν:=ν) _ _ hr,he,fun b y hy _=>⟨hbl.block _ (by obtain ⟨r,s,n⟩:=y; exact hh.own_lt ⟨b,s,n,hy⟩),hy⟩⟩
end
end Go.Proofs.YtbionhgjgcpogaaDoor.Clean
namespace Go.Proofs.YtbionhgjgcpogaaDoor
open Go Go.Proofs.YtbionhgjgcpogaaDoor.Clean
set_option linter.unusedVariables false
set_option maxRecDepth 100000
def stepC:List V:=[iv 1,iv 0,iv 0,iv (-1),iv 0,iv 0,iv 0,iv 1,iv 0,iv 0,iv (-1),iv 0,iv 0,iv 0,iv 1,iv 0,iv 0,iv (-1)]
def glX:Nat→Option (List V):=fun g=>match g with | 0=>some stepC | _=>none
theorem hmX:Tryd.prog.follows .mixedOrders=true:=by kernel_rfl
def u8 (n:Int):V := .raw (.int .u8 n)
abbrev Cl:=Int×Int×Int
def clr (c:Cl):List V:=[iv c.1,iv c.2.1,iv c.2.2]
def cll (l:List Cl):List (List V):=l.map clr
abbrev Kn:=Cl×Int×Int
def knr (k:Kn):List V:=[iv k.1.1,iv k.1.2.1,iv k.1.2.2,u8 k.2.1,u8 k.2.2]
def knl (l:List Kn):List (List V):=l.map knr
abbrev Kd:=List Cl×List Kn×Int
def kdr (k:Kd):List V:=[.lst 3 (cll k.1),.lst 5 (knl k.2.1),iv k.2.2]
def kdl (l:List Kd):List (List V):=l.map kdr
abbrev Bk:=Int×Cl×Int×Int
def bkr (b:Bk):List V:=[iv b.1,iv b.2.1.1,iv b.2.1.2.1,iv b.2.1.2.2,u8 b.2.2.1,u8 b.2.2.2]
def bkl (l:List Bk):List (List V):=l.map bkr
def moZ (f:FuncId):Nat:=0
def tyZ (f:FuncId):Option TypeId:=none
def kpZ:FuncId→Nat→Option (List Tmp):=slotsOf [(61,0,[0,9,10,11]),(62,0,[0,1,10,11,12]),(31,0,[9,10,11]),(91,0,[0,3,7,8]),(4,0,[0,5]),(53,0,[1,3]),(67,0,[1,3]),(34,0,[0,3]),(54,0,[0,3,5])]
noncomputable def cfC:Cfg:=cfgM Tryd.prog glX moZ tyZ (inN [80,92]) kpZ
noncomputable def cfZ:Cfg:=cfgM Tryd.prog glX moZ tyZ (inN [84,39]) kpZ
noncomputable def sh143 (l:List Cl) (c:Cl) (k:Nat):St:=⟨mkT [(0,V.lst 3 (cll l)),(3,V.ptr (Id.p 0) 0 0),(7,iv ((cll l).length:Int)),(8,iv (k:Int))],⟨[(0,O.rows 3 false [clr c])],1,[]⟩⟩
noncomputable def sh42 (l:List Cl) (c:Cl) (k:Nat):St:=⟨mkT [(0,V.lst 3 (cll l)),(3,V.ptr (Id.p 0) 0 0),(5,iv (k:Int))],⟨[(0,O.rows 3 false [clr c])],1,[]⟩⟩
noncomputable def sh50 (l:List Cl) (k:Nat):St:=⟨mkT [(0,V.lst 3 (cll l)),(9,V.lst 3 (cll l)),(10,iv ((cll l).length:Int)),(11,iv (k:Int))],⟨[],0,[]⟩⟩
noncomputable def sh51 (l:List Kn) (cs:List Cl) (k:Nat):St:=⟨mkT [(0,V.lst 5 (knl l)),(1,V.lst 3 (cll cs)),(10,V.lst 5 (knl l)),(11,iv ((knl l).length:Int)),(12,iv (k:Int))],⟨[],0,[]⟩⟩
noncomputable def sh16 (l:List Kd) (k:Nat):St:=⟨mkT [(9,V.lst 3 (kdl l)),(10,iv ((kdl l).length:Int)),(11,iv (k:Int))],⟨[],0,[]⟩⟩
noncomputable def sh17 (l:List Kd) (k:Nat):St:=⟨mkT [(0,V.lst 3 (kdl l)),(3,iv (k:Int))],⟨[],0,[]⟩⟩
noncomputable def sh12 (l:List Kd) (k:Nat):St:=⟨mkT [(0,V.lst 3 (kdl l)),(5,iv (k:Int))],⟨[],0,[]⟩⟩
noncomputable def sh53 (q:Kd) (k:Nat):St:=⟨mkT [(1,V.ptr (Id.p 0) 0 0),(3,iv (k:Int))],⟨[(0,O.rows 3 false [kdr q])],1,[]⟩⟩
set_option linter.unusedSimpArgs false
set_option maxRecDepth 10000
theorem hcC:cfC.ok Tryd.prog:=cfgM_ok
theorem hcZ:cfZ.ok Tryd.prog:=cfgM_ok
theorem ifB_t {b:Bool} {p q:Prop} (hb:b=true) (h:p):ifB b p q:=by subst hb; exact h
theorem ifB_f {b:Bool} {p q:Prop} (hb:b=false) (h:q):ifB b p q:=by subst hb; exact h
theorem hJ' {J:St→Prop} {s s' : St} (he:s=s') (h:J s'):J s:=he ▸ h
theorem cll_length (l:List Cl):(cll l).length=l.length:=by simp [cll]
theorem knl_length (l:List Kn):(knl l).length=l.length:=by simp [knl]
theorem kdl_length (l:List Kd):(kdl l).length=l.length:=by simp [kdl]
theorem bkl_length (l:List Bk):(bkl l).length=l.length:=by simp [bkl]
theorem wr1i {i n:Nat} (h:i<n) (hn:(n:Int)≤9223372036854775807):IntKind.i64.wrap ((i:Int)+1)=((i+1:Nat):Int):=by rw [wr (by omega) (by omega)]; simp
theorem getI {α:Type} {l:List α} {k:Nat} (h:k<l.length) : ∃ x,l[k]? = some x:=⟨l[k],by simp [h]⟩
noncomputable def dc (p:Prop):Bool:=@decide p (Classical.propDecidable p)
theorem dc_t {p:Prop} (h:p):dc p=true:=by simp [dc,h]
theorem dc_f {p:Prop} (h : ¬ p):dc p=false:=by simp [dc,h]
theorem dc_iff {p q:Prop} (h:p↔q):dc p=dc q:=by rw [propext h]
theorem dc_true {p:Prop} (h:dc p=true):p:=by simpa [dc] using h
theorem dc_false {p:Prop} (h:dc p=false) : ¬ p:=by simpa [dc] using h
theorem rt {p:Prop} {R:V→Prop} (h:R (bv (dc p))) (hp:p):R (bv true):=by rw [dc_t hp] at h; exact h
theorem rf {p:Prop} {R:V→Prop} (h:R (bv (dc p))) (hp : ¬ p):R (bv false):=by rw [dc_f hp] at h; exact h
theorem rb {p:Prop} {b:Bool} {R:V→Prop} (h:R (bv (dc p))) (hb:b=true↔p):R (bv b):=by
 cases b with
 | true=>exact rt h (hb.1 rfl)
 | false=>exact rf h (fun hp=>by cases hb.2 hp)
theorem take_succ' {α:Type} {l:List α} {k:Nat} {x:α} (h:l[k]? = some x):l.take (k+1)=l.take k++[x]:=by rw [List.take_add_one,h]; rfl
theorem all_take {α:Type} {l:List α} {k:Nat} {x:α} {P:α→Prop} (h:l[k]? = some x) (h1 : ∀ y∈l.take k,P y) (h2:P x) : ∀ y∈l.take (k+1),P y:=by
 rw [take_succ' h]
 intro y hy
 rcases List.mem_append.1 hy with hy | hy
 ·exact h1 y hy
 ·rw [List.mem_singleton.1 hy]; exact h2
theorem all_all {α:Type} {l:List α} {k:Nat} {P:α→Prop} (hk:l.length≤k) (h1 : ∀ y∈l.take k,P y) : ∀ y∈l,P y:=by rw [List.take_of_length_le hk] at h1; exact h1
theorem mem_at {α:Type} {l:List α} {k:Nat} {x:α} (h:l[k]? = some x):x∈l:=List.mem_of_getElem? h
theorem pw_take {α:Type} {r:α→α→Prop} (tr : ∀ a b c,r a b→r b c→r a c) {l:List α} {k:Nat} {x:α} (hx:l[k]? = some x) (h:(l.take k).Pairwise r) (hp:k=0 ∨ ∃ y,l[k - 1]? = some y∧r y x):(l.take (k+1)).Pairwise r:=by
 rw [take_succ' hx,List.pairwise_append]
 refine ⟨h,by simp,fun a ha b hb=>?_⟩
 rw [List.mem_singleton.1 hb]
 rcases hp with hp | ⟨y,hy,hr⟩
 ·subst hp; simp at ha
 ·obtain ⟨j,rfl⟩ : ∃ j,k=j+1:=by
   cases k with
   | zero=>simp at ha
   | succ j=>exact ⟨j,rfl⟩
  rw [Nat.add_sub_cancel] at hy
  rw [take_succ' hy,List.pairwise_append] at h
  rw [take_succ' hy] at ha
  rcases List.mem_append.1 ha with ha | ha
  ·exact tr a y x (h.2.2 a ha y (by simp)) hr
  ·rw [List.mem_singleton.1 ha]; exact hr
theorem pw_at {α:Type} {r:α→α→Prop} {l:List α} (h:l.Pairwise r) {k:Nat} {x y:α} (hx:l[k]? = some x) (hy:l[k - 1]? = some y) (hk:0<k):r y x:=by
 have h1:=List.getElem?_eq_some_iff.1 hx
 have h2:=List.getElem?_eq_some_iff.1 hy
 have:=List.pairwise_iff_getElem.1 h (k - 1) k h2.1 h1.1 (by omega)
 rw [h1.2,h2.2] at this
 exact this
def Nr (lo hi:Int) (c:Cl):Prop:=(lo≤c.1∧c.1≤hi)∧(lo≤c.2.1∧c.2.1≤hi)∧lo≤c.2.2∧c.2.2≤hi
def Bef (a b:Cl):Prop:=a.2.2<b.2.2∨a.2.2=b.2.2∧(a.2.1<b.2.1∨a.2.1=b.2.1∧a.1<b.1)
def BefK (a b:Kn):Prop:=Bef a.1 b.1∨a.1=b.1∧a.2.1<b.2.1
theorem cl_ext {a b:Cl} (h1:a.1=b.1) (h2:a.2.1=b.2.1) (h3:a.2.2=b.2.2):a=b:=Prod.ext h1 (Prod.ext h2 h3)
theorem Bef.tr : ∀ a b c:Cl,Bef a b→Bef b c→Bef a c:=fun a b c h1 h2=>by unfold Bef at *; omega
theorem Bef.tot (a b:Cl) (h1 : ¬ Bef a b) (h2 : ¬ Bef b a):a=b:=by unfold Bef at *; exact cl_ext (by omega) (by omega) (by omega)
theorem Bef.irr (a:Cl) : ¬ Bef a a:=by unfold Bef; omega
theorem Bef.asy {a b:Cl} (h1:Bef a b) : ¬ Bef b a:=by unfold Bef at *; omega
theorem BefK.tr : ∀ a b c:Kn,BefK a b→BefK b c→BefK a c:=fun a b c h1 h2=>by
 unfold BefK at *
 rcases h1 with h1 | ⟨e1,h1⟩ <;> rcases h2 with h2 | ⟨e2,h2⟩
 ·exact .inl (Bef.tr _ _ _ h1 h2)
 ·rw [← e2]; exact .inl h1
 ·rw [e1]; exact .inl h2
 ·exact .inr ⟨e1.trans e2,by omega⟩
def cmpI (x y:Int):Int:=if x<y then -1 else if x > y then 1 else 0
theorem cmpI_lt {x y:Int}:cmpI x y<0↔x<y:=by unfold cmpI; split <;> (try split) <;> omega
theorem cmpI_eq {x y:Int}:cmpI x y=0↔x=y:=by unfold cmpI; split <;> (try split) <;> omega
def cmpC (a b:Cl):Int:=if cmpI a.2.2 b.2.2≠0 then cmpI a.2.2 b.2.2 else if cmpI a.2.1 b.2.1≠0 then cmpI a.2.1 b.2.1 else cmpI a.1 b.1
theorem cmpC_lt {a b:Cl}:cmpC a b<0↔Bef a b:=by
 unfold cmpC Bef
 split
 ·rename_i h
  rw [cmpI_lt]
  have:=(not_congr cmpI_eq).1 h
  omega
 ·rename_i h
  have h:=cmpI_eq.1 (Decidable.not_not.1 h)
  split
  ·rename_i h'
   rw [cmpI_lt]
   have:=(not_congr cmpI_eq).1 h'
   omega
  ·rename_i h'
   have h' := cmpI_eq.1 (Decidable.not_not.1 h')
   rw [cmpI_lt]
   omega
theorem cmpC_eq {a b:Cl}:cmpC a b=0↔a=b:=by
 unfold cmpC
 constructor
 ·intro h
  split at h
  ·rename_i h1; exact absurd h h1
  ·rename_i h1
   split at h
   ·rename_i h2; exact absurd h h2
   ·rename_i h2
    exact cl_ext (cmpI_eq.1 h) (cmpI_eq.1 (Decidable.not_not.1 h2)) (cmpI_eq.1 (Decidable.not_not.1 h1))
 ·rintro rfl
  have : ∀ x:Int,cmpI x x=0:=fun x=>cmpI_eq.2 rfl
  simp [this]
def cmpK (a b:Kn):Int:=if cmpC a.1 b.1≠0 then cmpC a.1 b.1 else cmpI a.2.1 b.2.1
theorem cmpK_lt {a b:Kn}:cmpK a b<0↔BefK a b:=by
 unfold cmpK BefK
 split
 ·rename_i h
  rw [cmpC_lt]
  have:=(not_congr cmpC_eq).1 h
  exact ⟨.inl,fun q=>q.elim id (fun q=>absurd q.1 this)⟩
 ·rename_i h
  have h:=cmpC_eq.1 (Decidable.not_not.1 h)
  rw [cmpI_lt]
  exact ⟨fun q => .inr ⟨h,q⟩,fun q=>q.elim (fun q=>by rw [h] at q; exact absurd q (Bef.irr _)) (·.2)⟩
theorem cmp113 {a b:Int} {R:V→Prop} (h:R (iv (cmpI a b))):K0G Tryd.prog glX 66 [iv a,iv b] R:=by
 refine K0_of_WY0 hmX hcC 3000 Tryd.func66 (see (p:=ifB (a != a) (ifB (b != b) (R (iv (0:Int))) (R (iv (-1:Int)))) (ifB (b != b) (R (iv (1:Int))) (ifB (decide (a<b)) (R (iv (-1:Int))) (ifB (decide (a > b)) (R (iv (1:Int))) (R (iv (0:Int))))))) (by kernel_rfl) ?_)
 refine ifB_f (by simp) (ifB_f (by simp) (ifB_mk (fun c=>?_) (fun c=>ifB_mk (fun d=>?_) (fun d=>?_))))
 ·rw [cmpI,if_pos (of_decide_eq_true c)] at h; exact h
 ·rw [cmpI,if_neg (of_decide_eq_false c),if_pos (of_decide_eq_true d)] at h; exact h
 ·rw [cmpI,if_neg (of_decide_eq_false c),if_neg (of_decide_eq_false d)] at h; exact h
theorem cmp128 {a b:Int} {R:V→Prop} (h:R (iv (cmpI a b))):K0G Tryd.prog glX 85 [u8 a,u8 b] R:=by
 refine K0_of_WY0 hmX hcC 3000 Tryd.func85 (see (p:=ifB (a != a) (ifB (b != b) (R (iv (0:Int))) (R (iv (-1:Int)))) (ifB (b != b) (R (iv (1:Int))) (ifB (decide (a<b)) (R (iv (-1:Int))) (ifB (decide (a > b)) (R (iv (1:Int))) (R (iv (0:Int))))))) (by kernel_rfl) ?_)
 refine ifB_f (by simp) (ifB_f (by simp) (ifB_mk (fun c=>?_) (fun c=>ifB_mk (fun d=>?_) (fun d=>?_))))
 ·rw [cmpI,if_pos (of_decide_eq_true c)] at h; exact h
 ·rw [cmpI,if_neg (of_decide_eq_false c),if_pos (of_decide_eq_true d)] at h; exact h
 ·rw [cmpI,if_neg (of_decide_eq_false c),if_neg (of_decide_eq_false d)] at h; exact h
theorem or112 {a b c:Int} {R:V→Prop} (h:R (iv (if a≠0 then a else if b≠0 then b else c))):K0G Tryd.prog glX 65 [.lst 1 [[iv a],[iv b],[iv c]]] R:=by
 refine K0_of_WY0 hmX hcC 3000 Tryd.func65 (see (p:=ifB (a != (0:Int)) (R (iv a)) (ifB (b != (0:Int)) (R (iv b)) (ifB (c != (0:Int)) (R (iv c)) (R (iv (0:Int)))))) (by kernel_rfl) ?_)
 refine ifB_mk (fun d=>?_) (fun d=>ifB_mk (fun e=>?_) (fun e=>ifB_mk (fun g=>?_) (fun g=>?_)))
 ·rw [if_pos (by simpa using d)] at h; exact h
 ·rw [if_neg (by simpa using d),if_pos (by simpa using e)] at h; exact h
 ·rw [if_neg (by simpa using d),if_neg (by simpa using e)] at h; exact h
 ·rw [if_neg (by simpa using d),if_neg (by simpa using e),show c=0 from by simpa using g] at h; exact h
theorem or112b {a b:Int} {R:V→Prop} (h:R (iv (if a≠0 then a else b))):K0G Tryd.prog glX 65 [.lst 1 [[iv a],[iv b]]] R:=by
 refine K0_of_WY0 hmX hcC 3000 Tryd.func65 (see (p:=ifB (a != (0:Int)) (R (iv a)) (ifB (b != (0:Int)) (R (iv b)) (R (iv (0:Int))))) (by kernel_rfl) ?_)
 refine ifB_mk (fun d=>?_) (fun d=>ifB_mk (fun e=>?_) (fun e=>?_))
 ·rw [if_pos (by simpa using d)] at h; exact h
 ·rw [if_neg (by simpa using d)] at h; exact h
 ·rw [if_neg (by simpa using d),show b=0 from by simpa using e] at h; exact h
theorem cmp89 {a b:Cl} {R:V→Prop} (h:R (iv (cmpC a b))):K0G Tryd.prog glX 51 [.agg (clr a),.agg (clr b)] R:=by
 refine K0_of_WY0 hmX hcC 3000 Tryd.func51 (see (p:=K0G Tryd.prog glX 66 [iv a.2.2,iv b.2.2] fun v=>onIntK IntKind.i64 v fun n=>K0G Tryd.prog glX 66 [iv a.2.1,iv b.2.1] fun v=>onIntK IntKind.i64 v fun n_1=>K0G Tryd.prog glX 66 [iv a.1,iv b.1] fun v=>onIntK IntKind.i64 v fun n_2=>K0G Tryd.prog glX 65 [V.lst 1 [[iv n],[iv n_1],[iv n_2]]] fun v=>onIntK IntKind.i64 v fun n=>R (iv n)) (by kernel_rfl) ?_)
 exact cmp113 (onIntK_iv (cmp113 (onIntK_iv (cmp113 (onIntK_iv (or112 (onIntK_iv h)))))))
theorem cmp91 {a b:Kn} {R:V→Prop} (h:R (iv (cmpK a b))):K0G Tryd.prog glX 69 [.agg (knr a),.agg (knr b)] R:=by
 refine K0_of_WY0 hmX hcC 3000 Tryd.func69 (see (p:=K0G Tryd.prog glX 51 [V.agg [iv a.1.1,iv a.1.2.1,iv a.1.2.2],V.agg [iv b.1.1,iv b.1.2.1,iv b.1.2.2]] fun v=>onIntK IntKind.i64 v fun n=>K0G Tryd.prog glX 85 [V.raw (Value.int IntKind.u8 a.2.1),V.raw (Value.int IntKind.u8 b.2.1)] fun v=>onIntK IntKind.i64 v fun n_1=>K0G Tryd.prog glX 65 [V.lst 1 [[iv n],[iv n_1]]] fun v=>onIntK IntKind.i64 v fun n=>R (iv n)) (by kernel_rfl) ?_)
 exact cmp89 (a:=a.1) (b:=b.1) (onIntK_iv (cmp128 (onIntK_iv (or112b (onIntK_iv h)))))
theorem within52 {n lo hi:Int} {R:V→Prop} (h:R (bv (dc (lo≤n∧n≤hi)))):K0G Tryd.prog glX 37 [iv n,iv lo,iv hi] R:=by
 refine K0_of_WY0 hmX hcC 3000 Tryd.func37 (see (p:=ifB (decide (lo≤n)) (R (bv (decide (n≤hi)))) (R (bv false))) (by kernel_rfl) ?_)
 exact ifB_mk (fun c=>rb h ⟨fun d=>⟨of_decide_eq_true c,of_decide_eq_true d⟩,fun d=>decide_eq_true d.2⟩) (fun c=>rf h (fun d=>of_decide_eq_false c d.1))
theorem within87 {n lo hi:Int} {R:V→Prop} (h:R (bv (dc (lo≤n∧n≤hi)))):K0G Tryd.prog glX 46 [iv n,iv lo,iv hi] R:=by
 refine K0_of_WY0 hmX hcC 3000 Tryd.func46 (see (p:=ifB (decide (n ≥ lo)) (R (bv (decide (n≤hi)))) (R (bv false))) (by kernel_rfl) ?_)
 first
  | exact ifB_mk (fun c=>rb h ⟨fun d=>⟨by simpa using c,of_decide_eq_true d⟩,fun d=>decide_eq_true d.2⟩) (fun c=>rf h (fun d=>of_decide_eq_false c d.1))
theorem near84 {c:Cl} {lo hi:Int} {R:V→Prop} (h:R (bv (dc (Nr lo hi c)))):K0G Tryd.prog glX 38 [.agg (clr c),iv lo,iv hi] R:=by
 refine K0_of_WY0 hmX hcC 3000 Tryd.func38 (see (p:=K0G Tryd.prog glX 37 [iv c.1,iv lo,iv hi] fun v=>onBool v fun b=>ifB b (K0G Tryd.prog glX 37 [iv c.2.1,iv lo,iv hi] fun v=>onBool v fun b=>ifB b (K0G Tryd.prog glX 37 [iv c.2.2,iv lo,iv hi] fun v=>onBool v fun b=>R (bv b)) (R (bv false))) (R (bv false))) (by kernel_rfl) ?_)
 refine within52 (onBool_bv (ifB_mk (fun c1=>within52 (onBool_bv (ifB_mk (fun c2=>within52 (onBool_bv ?_)) (fun c2=>rf h (fun q=>dc_false c2 q.2.1))))) (fun c1=>rf h (fun q=>dc_false c1 q.1))))
 exact rb h ⟨fun q=>⟨dc_true c1,dc_true c2,dc_true q⟩,fun q=>dc_t q.2.2⟩
theorem near49 {c:Cl} {lo hi:Int} {R:V→Prop} (h:R (bv (dc (Nr lo hi c)))):K0G Tryd.prog glX 26 [.agg (clr c),iv lo,iv hi] R:=by
 refine K0_of_WY0 hmX hcC 3000 Tryd.func26 (see (p:=K0G Tryd.prog glX 46 [iv c.1,iv lo,iv hi] fun v=>onBool v fun b=>ifB b (K0G Tryd.prog glX 46 [iv c.2.1,iv lo,iv hi] fun v=>onBool v fun b=>ifB b (K0G Tryd.prog glX 46 [iv c.2.2,iv lo,iv hi] fun v=>onBool v fun b=>R (bv b)) (R (bv false))) (R (bv false))) (by kernel_rfl) ?_)
 refine within87 (onBool_bv (ifB_mk (fun c1=>within87 (onBool_bv (ifB_mk (fun c2=>within87 (onBool_bv ?_)) (fun c2=>rf h (fun q=>dc_false c2 q.2.1))))) (fun c1=>rf h (fun q=>dc_false c1 q.1))))
 exact rb h ⟨fun q=>⟨dc_true c1,dc_true c2,dc_true q⟩,fun q=>dc_t q.2.2⟩
theorem cel {l:List Cl} {i:Nat} {c:Cl} {k:Int→Int→Int→Prop} (h:l[i]? = some c) (hk:k c.1 c.2.1 c.2.2):onSome (cll l)[i]? fun row=>onCons (List.drop 0 row) fun u r=>onIntK IntKind.i64 u fun n=>onCons r fun u r=>onIntK IntKind.i64 u fun n_1=>onCons r fun u r=>onIntK IntKind.i64 u fun n_2=>k n n_1 n_2 :=
 onSome_mk (by simp [cll,h]:(cll l)[i]? = some (clr c)) hk
theorem kel {l:List Kn} {i:Nat} {c:Kn} {k:Int→Int→Int→Int→Int→Prop} (h:l[i]? = some c) (hk:k c.1.1 c.1.2.1 c.1.2.2 c.2.1 c.2.2):onSome (knl l)[i]? fun row=>onCons (List.drop 0 row) fun u r=>onIntK IntKind.i64 u fun n=>onCons r fun u r=>onIntK IntKind.i64 u fun n_1=>onCons r fun u r=>onIntK IntKind.i64 u fun n_2=>onCons r fun u r=>onIntK IntKind.u8 u fun n_3=>onCons r fun u r=>onIntK IntKind.u8 u fun n_4=>k n n_1 n_2 n_3 n_4 :=
 onSome_mk (by simp [knl,h]:(knl l)[i]? = some (knr c)) hk
theorem del {l:List Kd} {i:Nat} {q:Kd} {k:Nat→List (List V)→Nat→List (List V)→Int→Prop} (h:l[i]? = some q) (hk:k 3 (cll q.1) 5 (knl q.2.1) q.2.2):onSome (kdl l)[i]? fun row=>onCons (List.drop 0 row) fun u r=>onLst u fun s es=>onCons r fun u r=>onLst u fun s_1 es_1=>onCons r fun u r=>onIntK IntKind.i64 u fun n=>k s es s_1 es_1 n :=
 onSome_mk (by simp [kdl,h]:(kdl l)[i]? = some (kdr q)) hk
def stpL:List Cl:=[(1,0,0),(-1,0,0),(0,1,0),(0, -1,0),(0,0,1),(0,0, -1)]
def stp (d:Int):Cl:=stpL.getD d.toNat (0,0,0)
def addC (a b:Cl):Cl:=(a.1+b.1,a.2.1+b.2.1,a.2.2+b.2.2)
theorem stp_at {m:Nat} (h:m<6) {k:Int→Int→Int→Prop} (hk:k (stp (m:Int)).1 (stp (m:Int)).2.1 (stp (m:Int)).2.2):onCons (List.drop (0+m * 3) stepC) fun u r=>onIntK IntKind.i64 u fun n=>onCons r fun u r=>onIntK IntKind.i64 u fun n_1=>onCons r fun u r=>onIntK IntKind.i64 u fun n_2=>k n n_1 n_2:=by
 match m,h with
 | 0,_=>exact hk
 | 1,_=>exact hk
 | 2,_=>exact hk
 | 3,_=>exact hk
 | 4,_=>exact hk
 | 5,_=>exact hk
theorem stp_bd (d:Int):Nr (-1) 1 (stp d):=by
 unfold stp
 generalize d.toNat=m
 by_cases h:m<6
 ·match m,h with
  | 0,_=>exact ⟨by decide,by decide,by decide⟩
  | 1,_=>exact ⟨by decide,by decide,by decide⟩
  | 2,_=>exact ⟨by decide,by decide,by decide⟩
  | 3,_=>exact ⟨by decide,by decide,by decide⟩
  | 4,_=>exact ⟨by decide,by decide,by decide⟩
  | 5,_=>exact ⟨by decide,by decide,by decide⟩
 ·have:stpL.getD m (0,0,0)=(0,0,0):=by rw [List.getD_eq_getElem?_getD,List.getElem?_eq_none (by simp [stpL]; omega)]; rfl
  rw [this]; exact ⟨by decide,by decide,by decide⟩
theorem dir81 {d:Int} {R:V→Prop} (h:R (bv (dc (0≤d∧d≤5)))):K0G Tryd.prog glX 82 [iv d] R:=by
 refine K0_of_WY0 hmX hcC 3000 Tryd.func82 (see (p:=K0G Tryd.prog glX 37 [iv d,iv (0:Int),iv (5:Int)] fun v=>onBool v fun b=>R (bv b)) (by kernel_rfl) ?_)
 exact within52 (onBool_bv h)
theorem index143 {l:List Cl} {c:Cl} {R:V→Prop} (hl:(l.length:Int)≤1000000) (h : ∀ n:Int,(0≤n↔c∈l)→R (iv n)):K0G Tryd.prog glX 91 [.lst 3 (cll l),.agg (clr c)] R:=by
 refine K0_of_WY0 hmX hcC 3000 Tryd.func91 (see (p:=La 0 [(0:Tmp),(3:Tmp),(7:Tmp),(8:Tmp)] (WY Tryd.prog cfC 2995 (Env.mk (Bs.mk 0 []) 0 none 19 91 0) (cdAt [1,0,1,0,0] (bodyOf Tryd.f91))) (Qblk 0 (Qthen (WY Tryd.prog cfC 2998 (Env.mk (Bs.mk 0 []) 0 none 19 91 0) (cdAt [1,1] (bodyOf Tryd.f91)) (QendX Tryd.prog Tryd.f91 fun v h=>R (frzW h v))) (QendX Tryd.prog Tryd.f91 fun v h=>R (frzW h v)))) (St.mk (mkT [(0,V.lst 3 (cll l)),(3,V.ptr (Id.p 0) 0 0),(7,iv (↑(cll l).length:Int)),(8,iv (0:Int))]) (Hp.mk [(0,O.rows 3 false [[iv c.1,iv c.2.1,iv c.2.2]])] 1 []))) (by kernel_rfl) ?_)
 refine La.of (σ:=Nat) (fun k=>sh143 l c k) (fun k=>k≤l.length ∧ ∀ x∈l.take k,x≠c) (fun k=>l.length - k) 0 (by kernel_rfl) ⟨by omega,by simp⟩ ?_
 rintro k ⟨g1,g2⟩ J hJ
 refine see (p:=ifB (decide ((↑k:Int)<(↑(cll l).length:Int))) (onSome (cll l)[k]? fun row=>onCons (List.drop 0 row) fun u r=>onIntK IntKind.i64 u fun n=>onCons r fun u r=>onIntK IntKind.i64 u fun n_1=>onCons r fun u r=>onIntK IntKind.i64 u fun n_2=>ifB (c.1==n&&(fun b=>c.2.1==n_1&&b) ((fun b=>c.2.2==n_2&&b) true)) (R (iv (↑k:Int))) (J (St.mk (mkT [(0,V.lst 3 (cll l)),(3,V.ptr (Id.p 0) 0 0),(7,iv (↑(cll l).length:Int)),(8,iv (IntKind.i64.wrap ((↑k:Int)+(1:Int))))]) (Hp.mk [(0,O.rows 3 false [[iv c.1,iv c.2.1,iv c.2.2]])] 1 [])))) (R (iv (-1:Int)))) (by kernel_rfl) ?_
 rw [cll_length]
 refine ifB_mk (fun hb=>?_) (fun hb=>?_)
 ·have hlt:k<l.length:=by have:=of_decide_eq_true hb; omega
  obtain ⟨x,hx⟩:=getI hlt
  refine cel hx (ifB_mk (fun d=>?_) (fun d=>?_))
  ·simp only [Bool.and_eq_true,beq_iff_eq,Bool.and_true] at d
   have:c=x:=cl_ext d.1 d.2.1 d.2.2
   exact h _ ⟨fun _=>this ▸ mem_at hx,fun _=>by omega⟩
  ·rw [wr1i hlt (by omega)]
   refine hJ' (by simp [sh143,cll_length]; rfl) (hJ (k+1) ⟨hlt,all_take hx g2 (fun e=>?_)⟩ (by omega))
   subst e
   simp at d
 ·have hk:l.length≤k:=by have:=of_decide_eq_false hb; omega
  exact h _ ⟨fun h0=>by omega,fun hn=>(all_all hk g2 c hn rfl).elim⟩
theorem contains127 {l:List Cl} {c:Cl} {R:V→Prop} (hl:(l.length:Int)≤1000000) (h:R (bv (dc (c∈l)))):K0G Tryd.prog glX 83 [.lst 3 (cll l),.agg (clr c)] R:=by
 refine K0_of_WY0 hmX hcC 3000 Tryd.func83 (see (p:=K0G Tryd.prog glX 91 [V.lst 3 (cll l),V.agg [iv c.1,iv c.2.1,iv c.2.2]] fun v=>onIntK IntKind.i64 v fun n=>R (bv (decide (n ≥ (0:Int))))) (by kernel_rfl) ?_)
 exact index143 hl (fun n hn=>onIntK_iv (rb h ⟨fun q=>hn.1 (of_decide_eq_true q),fun q=>decide_eq_true (hn.2 q)⟩))
def CellsP (l:List Cl):Prop:=(1≤l.length∧l.length≤24)∧(∀ c∈l,Nr 0 15 c)∧l.Pairwise Bef
theorem areCells50 {l:List Cl} {R:V→Prop} (hl:(l.length:Int)≤1000000) (h:R (bv (dc (CellsP l)))):K0G Tryd.prog glX 61 [.lst 3 (cll l)] R:=by
 refine K0_of_WY0 hmX hcZ 3000 Tryd.func61 (see (p:=K0G Tryd.prog glX 37 [iv (↑(cll l).length:Int),iv (1:Int),iv (24:Int)] fun v=>onBool v fun b=>ifB (!b) (R (bv false)) (La 0 [(0:Tmp),(9:Tmp),(10:Tmp),(11:Tmp)] (WY Tryd.prog cfZ 2994 (Env.mk (Bs.mk 0 []) 0 none 34 61 0) (cdAt [1,1,0,1,0,0] (bodyOf Tryd.f61))) (Qblk 0 (Qthen (WY Tryd.prog cfZ 2997 (Env.mk (Bs.mk 0 []) 0 none 34 61 0) (cdAt [1,1,1] (bodyOf Tryd.f61)) (QendX Tryd.prog Tryd.f61 fun v h=>R (frzW h v))) (QendX Tryd.prog Tryd.f61 fun v h=>R (frzW h v)))) (St.mk (mkT [(0,V.lst 3 (cll l)),(9,V.lst 3 (cll l)),(10,iv (↑(cll l).length:Int)),(11,iv (0:Int))]) (Hp.mk [] 0 [])))) (by kernel_rfl) ?_)
 rw [cll_length]
 refine within52 (onBool_bv (ifB_mk (fun c=>rf h (fun q=>?_)) (fun c=>?_)))
 ·rw [dc_t ⟨by have:=q.1.1; omega,by have:=q.1.2; omega⟩] at c; cases c
 have h24:(1:Int)≤l.length∧(l.length:Int)≤24:=dc_true (by cases hq:dc ((1:Int)≤l.length∧(l.length:Int)≤24) with | true=>rfl | false=>rw [hq] at c; cases c)
 refine La.of (σ:=Nat) (fun k=>sh50 l k) (fun k=>k≤l.length∧(∀ x∈l.take k,Nr 0 15 x)∧(l.take k).Pairwise Bef) (fun k=>l.length - k) 0 (by rw [← cll_length]; kernel_rfl) ⟨by omega,by simp,by simp⟩ ?_
 rintro k ⟨g1,g2,g3⟩ J hJ
 refine see (p:=ifB (decide ((↑k:Int)<(↑(cll l).length:Int))) (onSome (cll l)[k]? fun row=>onCons (List.drop 0 row) fun u r=>onIntK IntKind.i64 u fun n=>onCons r fun u r=>onIntK IntKind.i64 u fun n_1=>onCons r fun u r=>onIntK IntKind.i64 u fun n_2=>K0G Tryd.prog glX 38 [V.agg [iv n,iv n_1,iv n_2],iv (0:Int),iv (15:Int)] fun v=>onBool v fun b=>ifB (!b) (R (bv false)) (ifB (decide ((↑k:Int) > (0:Int))) (onNat (IntKind.i64.wrap ((↑k:Int) - (1:Int))) fun m=>onSome (cll l)[m]? fun row=>onCons (List.drop 0 row) fun u r=>onIntK IntKind.i64 u fun n_3=>onCons r fun u r=>onIntK IntKind.i64 u fun n_4=>onCons r fun u r=>onIntK IntKind.i64 u fun n_5=>K0G Tryd.prog glX 51 [V.agg [iv n_3,iv n_4,iv n_5],V.agg [iv n,iv n_1,iv n_2]] fun v=>onIntK IntKind.i64 v fun n=>ifB (decide (n ≥ (0:Int))) (R (bv false)) (J (St.mk (mkT [(0,V.lst 3 (cll l)),(9,V.lst 3 (cll l)),(10,iv (↑(cll l).length:Int)),(11,iv (IntKind.i64.wrap ((↑k:Int)+(1:Int))))]) (Hp.mk [] 0 [])))) (J (St.mk (mkT [(0,V.lst 3 (cll l)),(9,V.lst 3 (cll l)),(10,iv (↑(cll l).length:Int)),(11,iv (IntKind.i64.wrap ((↑k:Int)+(1:Int))))]) (Hp.mk [] 0 []))))) (R (bv true))) (by kernel_rfl) ?_
 rw [cll_length]
 refine ifB_mk (fun hb=>?_) (fun hb=>?_)
 ·have hlt:k<l.length:=by have:=of_decide_eq_true hb; omega
  obtain ⟨x,hx⟩:=getI hlt
  refine cel hx (near84 (c:=x) (onBool_bv (ifB_mk (fun d=>rf h (fun q=>?_)) (fun d=>?_))))
  ·rw [dc_t (q.2.1 x (mem_at hx))] at d; cases d
  have hn:Nr 0 15 x:=dc_true (by cases hq:dc (Nr 0 15 x) with | true=>rfl | false=>rw [hq] at d; cases d)
  have nxt:(k=0 ∨ ∃ y,l[k - 1]? = some y∧Bef y x)→J (sh50 l (k+1)):=fun hp=>hJ (k+1) ⟨hlt,all_take hx g2 hn,pw_take Bef.tr hx g3 hp⟩ (by omega)
  refine ifB_mk (fun e=>?_) (fun e=>?_)
  ·have hk:0<k:=by have:=of_decide_eq_true e; omega
   obtain ⟨y,hy⟩:=getI (l:=l) (k:=k - 1) (by omega)
   refine onNat_mk (m:=k - 1) (by rw [wr (by omega) (by omega)]; omega) (cel hy (cmp89 (a:=y) (b:=x) (onIntK_iv (ifB_mk (fun f=>rf h (fun q=>?_)) (fun f=>?_)))))
   ·have:=cmpC_lt.2 (pw_at q.2.2 hx hy hk)
    have:=of_decide_eq_true f
    omega
   ·rw [wr1i hlt (by omega)]
    exact hJ' (by simp [sh50,cll_length]) (nxt (.inr ⟨y,hy,cmpC_lt.1 (by have:=of_decide_eq_false f; omega)⟩))
  ·rw [wr1i hlt (by omega)]
   exact hJ' (by simp [sh50,cll_length]) (nxt (.inl (by have:=of_decide_eq_false e; omega)))
 ·have hk:l.length≤k:=by have:=of_decide_eq_false hb; omega
  rw [List.take_of_length_le hk] at g3
  exact rt h ⟨by omega,all_all hk g2,g3⟩
def KnR (k:Kn):Prop:=(0≤k.2.1∧k.2.1≤255)∧0≤k.2.2∧k.2.2≤255
def KnobP (cs:List Cl) (k:Kn):Prop:=k.2.1≤5∧(1≤k.2.2∧k.2.2≤6)∧k.1∈cs∧addC k.1 (stp k.2.1) ∉ cs
theorem isKnob90 {a:Kn} {cs:List Cl} {R:V→Prop} (hr:KnR a) (hc : ∀ c∈cs,Nr 0 15 c) (hl:(cs.length:Int)≤1000000) (h:R (bv (dc (KnobP cs a)))):K0G Tryd.prog glX 68 [.agg (knr a),.lst 3 (cll cs)] R:=by
 refine K0_of_WY0 hmX hcZ 3000 Tryd.func68 (see (p:=K0G Tryd.prog glX 82 [iv (IntKind.i64.wrap a.2.1)] fun v=>onBool v fun b=>ifB (!b) (R (bv false)) (K0G Tryd.prog glX 37 [iv (IntKind.i64.wrap a.2.2),iv (1:Int),iv (6:Int)] fun v=>onBool v fun b=>ifB (!b) (R (bv false)) (K0G Tryd.prog glX 83 [V.lst 3 (cll cs),V.agg [iv a.1.1,iv a.1.2.1,iv a.1.2.2]] fun v=>onBool v fun b=>ifB b (onNat a.2.1 fun m=>need (m<6) (onCons (List.drop (0+m * 3) [iv (1:Int),iv (0:Int),iv (0:Int),iv (-1:Int),iv (0:Int),iv (0:Int),iv (0:Int),iv (1:Int),iv (0:Int),iv (0:Int),iv (-1:Int),iv (0:Int),iv (0:Int),iv (0:Int),iv (1:Int),iv (0:Int),iv (0:Int),iv (-1:Int)]) fun u r=>onIntK IntKind.i64 u fun n=>onCons r fun u r=>onIntK IntKind.i64 u fun n_1=>onCons r fun u r=>onIntK IntKind.i64 u fun n_2=>K0G Tryd.prog glX 83 [V.lst 3 (cll cs),V.agg [iv (IntKind.i64.wrap (a.1.1+n)),iv (IntKind.i64.wrap (a.1.2.1+n_1)),iv (IntKind.i64.wrap (a.1.2.2+n_2))]] fun v=>onBool v fun b=>R (bv !b))) (R (bv false))))) (by kernel_rfl) ?_)
 obtain ⟨⟨r1,r2⟩,r3,r4⟩:=hr
 rw [wr (n:=a.2.1) (by omega) (by omega),wr (n:=a.2.2) (by omega) (by omega)]
 refine dir81 (onBool_bv (ifB_mk (fun d=>rf h (fun q=>?_)) (fun d=>?_)))
 ·rw [dc_t ⟨r1,q.1⟩] at d; cases d
 have d5:0≤a.2.1∧a.2.1≤5:=dc_true (by cases hq:dc (0≤a.2.1∧a.2.1≤5) with | true=>rfl | false=>rw [hq] at d; cases d)
 refine within52 (onBool_bv (ifB_mk (fun d=>rf h (fun q=>?_)) (fun d=>?_)))
 ·rw [dc_t q.2.1] at d; cases d
 have s6:1≤a.2.2∧a.2.2≤6:=dc_true (by cases hq:dc (1≤a.2.2∧a.2.2≤6) with | true=>rfl | false=>rw [hq] at d; cases d)
 refine contains127 (c:=a.1) hl (onBool_bv (ifB_mk (fun d=>?_) (fun d=>rf h (fun q=>dc_false d q.2.2.1))))
 have hm:=dc_true d
 obtain ⟨⟨c1,c2⟩,⟨c3,c4⟩,c5,c6⟩:=hc _ hm
 obtain ⟨⟨t1,t2⟩,⟨t3,t4⟩,t5,t6⟩:=stp_bd a.2.1
 have ea:a.2.1=((a.2.1.toNat:Nat):Int):=by omega
 refine onNat_mk (m:=a.2.1.toNat) ea (need_mk ⟨by omega,stp_at (by omega) ?_⟩)
 rw [← ea,wr (n:=a.1.1+_) (by omega) (by omega),wr (n:=a.1.2.1+_) (by omega) (by omega),wr (n:=a.1.2.2+_) (by omega) (by omega)]
 refine contains127 (c:=addC a.1 (stp a.2.1)) hl (onBool_bv ?_)
 refine rb h ⟨fun q=>⟨d5.2,s6,hm,?_⟩,fun q=>by rw [dc_f q.2.2.2]; rfl⟩
 intro hn
 rw [dc_t hn] at q
 cases q
def KnobsP (cs:List Cl) (l:List Kn):Prop:=l.length≤48∧(∀ k∈l,KnobP cs k)∧l.Pairwise BefK
theorem areKnobs51 {l:List Kn} {cs:List Cl} {R:V→Prop} (hr : ∀ k∈l,KnR k) (hc : ∀ c∈cs,Nr 0 15 c) (hcl:(cs.length:Int)≤1000000) (h:R (bv (dc (KnobsP cs l)))):K0G Tryd.prog glX 62 [.lst 5 (knl l),.lst 3 (cll cs)] R:=by
 refine K0_of_WY0 hmX hcC 3000 Tryd.func62 (see (p:=ifB (decide ((↑(knl l).length:Int) > (48:Int))) (R (bv false)) (La 0 [(0:Tmp),(1:Tmp),(10:Tmp),(11:Tmp),(12:Tmp)] (WY Tryd.prog cfC 2994 (Env.mk (Bs.mk 0 []) 0 none 36 62 0) (cdAt [1,1,0,1,0,0] (bodyOf Tryd.f62))) (Qblk 0 (Qthen (WY Tryd.prog cfC 2997 (Env.mk (Bs.mk 0 []) 0 none 36 62 0) (cdAt [1,1,1] (bodyOf Tryd.f62)) (QendX Tryd.prog Tryd.f62 fun v h=>R (frzW h v))) (QendX Tryd.prog Tryd.f62 fun v h=>R (frzW h v)))) (St.mk (mkT [(0,V.lst 5 (knl l)),(1,V.lst 3 (cll cs)),(10,V.lst 5 (knl l)),(11,iv (↑(knl l).length:Int)),(12,iv (0:Int))]) (Hp.mk [] 0 [])))) (by kernel_rfl) ?_)
 rw [knl_length]
 refine ifB_mk (fun c=>rf h (fun q=>by have:=q.1; have:=of_decide_eq_true c; omega)) (fun c=>?_)
 have h48:l.length≤48:=by have:=of_decide_eq_false c; omega
 refine La.of (σ:=Nat) (fun k=>sh51 l cs k) (fun k=>k≤l.length∧(∀ x∈l.take k,KnobP cs x)∧(l.take k).Pairwise BefK) (fun k=>l.length - k) 0 (by rw [← knl_length]; kernel_rfl) ⟨by omega,by simp,by simp⟩ ?_
 rintro k ⟨g1,g2,g3⟩ J hJ
 refine see (p:=ifB (decide ((↑k:Int)<(↑(knl l).length:Int))) (onSome (knl l)[k]? fun row=>onCons (List.drop 0 row) fun u r=>onIntK IntKind.i64 u fun n=>onCons r fun u r=>onIntK IntKind.i64 u fun n_1=>onCons r fun u r=>onIntK IntKind.i64 u fun n_2=>onCons r fun u r=>onIntK IntKind.u8 u fun n_3=>onCons r fun u r=>onIntK IntKind.u8 u fun n_4=>K0G Tryd.prog glX 68 [V.agg [iv n,iv n_1,iv n_2,V.raw (Value.int IntKind.u8 n_3),V.raw (Value.int IntKind.u8 n_4)],V.lst 3 (cll cs)] fun v=>onBool v fun b=>ifB (!b) (R (bv false)) (ifB (decide ((↑k:Int) > (0:Int))) (onNat (IntKind.i64.wrap ((↑k:Int) - (1:Int))) fun m=>onSome (knl l)[m]? fun row=>onCons (List.drop 0 row) fun u r=>onIntK IntKind.i64 u fun n_5=>onCons r fun u r=>onIntK IntKind.i64 u fun n_6=>onCons r fun u r=>onIntK IntKind.i64 u fun n_7=>onCons r fun u r=>onIntK IntKind.u8 u fun n_8=>onCons r fun u r=>onIntK IntKind.u8 u fun n_9=>K0G Tryd.prog glX 69 [V.agg [iv n_5,iv n_6,iv n_7,V.raw (Value.int IntKind.u8 n_8),V.raw (Value.int IntKind.u8 n_9)],V.agg [iv n,iv n_1,iv n_2,V.raw (Value.int IntKind.u8 n_3),V.raw (Value.int IntKind.u8 n_4)]] fun v=>onIntK IntKind.i64 v fun n=>ifB (decide (n ≥ (0:Int))) (R (bv false)) (J (St.mk (mkT [(0,V.lst 5 (knl l)),(1,V.lst 3 (cll cs)),(10,V.lst 5 (knl l)),(11,iv (↑(knl l).length:Int)),(12,iv (IntKind.i64.wrap ((↑k:Int)+(1:Int))))]) (Hp.mk [] 0 [])))) (J (St.mk (mkT [(0,V.lst 5 (knl l)),(1,V.lst 3 (cll cs)),(10,V.lst 5 (knl l)),(11,iv (↑(knl l).length:Int)),(12,iv (IntKind.i64.wrap ((↑k:Int)+(1:Int))))]) (Hp.mk [] 0 []))))) (R (bv true))) (by kernel_rfl) ?_
 rw [knl_length]
 refine ifB_mk (fun hb=>?_) (fun hb=>?_)
 ·have hlt:k<l.length:=by have:=of_decide_eq_true hb; omega
  obtain ⟨x,hx⟩:=getI hlt
  refine kel hx (isKnob90 (a:=x) (hr x (mem_at hx)) hc hcl (onBool_bv (ifB_mk (fun d=>rf h (fun q=>?_)) (fun d=>?_))))
  ·rw [dc_t (q.2.1 x (mem_at hx))] at d; cases d
  have hn:KnobP cs x:=dc_true (by cases hq:dc (KnobP cs x) with | true=>rfl | false=>rw [hq] at d; cases d)
  have nxt:(k=0 ∨ ∃ y,l[k - 1]? = some y∧BefK y x)→J (sh51 l cs (k+1)):=fun hp=>hJ (k+1) ⟨hlt,all_take hx g2 hn,pw_take BefK.tr hx g3 hp⟩ (by omega)
  refine ifB_mk (fun e=>?_) (fun e=>?_)
  ·have hk:0<k:=by have:=of_decide_eq_true e; omega
   obtain ⟨y,hy⟩:=getI (l:=l) (k:=k - 1) (by omega)
   refine onNat_mk (m:=k - 1) (by rw [wr (by omega) (by omega)]; omega) (kel hy (cmp91 (a:=y) (b:=x) (onIntK_iv (ifB_mk (fun f=>rf h (fun q=>?_)) (fun f=>?_)))))
   ·have:=cmpK_lt.2 (pw_at q.2.2 hx hy hk)
    have:=of_decide_eq_true f
    omega
   ·rw [wr1i hlt (by omega)]
    exact hJ' (by simp [sh51,knl_length]) (nxt (.inr ⟨y,hy,cmpK_lt.1 (by have:=of_decide_eq_false f; omega)⟩))
  ·rw [wr1i hlt (by omega)]
   exact hJ' (by simp [sh51,knl_length]) (nxt (.inl (by have:=of_decide_eq_false e; omega)))
 ·have hk:l.length≤k:=by have:=of_decide_eq_false hb; omega
  rw [List.take_of_length_le hk] at g3
  exact rt h ⟨h48,all_all hk g2,g3⟩
def KindP (q:Kd):Prop:=CellsP q.1∧KnobsP q.1 q.2.1∧1≤q.2.2∧q.2.2≤100
def KdR (q:Kd):Prop:=(∀ k∈q.2.1,KnR k)∧q.1.length≤30∧q.2.1.length≤60
theorem kind14 {q:Kd} {R:V→Prop} (hq:KdR q) (h1:KindP q→R (iv 0)) (h2 : ¬ KindP q→R (iv 10)):K0G Tryd.prog glX 49 [.agg (kdr q)] R:=by
 refine K0_of_WY0 hmX hcC 3000 Tryd.func49 (see (p:=K0G Tryd.prog glX 61 [V.lst 3 (cll q.1)] fun v=>onBool v fun b=>ifB (!b) (R (iv (10:Int))) (K0G Tryd.prog glX 62 [V.lst 5 (knl q.2.1),V.lst 3 (cll q.1)] fun v=>onBool v fun b=>ifB (!b) (R (iv (10:Int))) (K0G Tryd.prog glX 37 [iv q.2.2,iv (1:Int),iv (100:Int)] fun v=>onBool v fun b=>ifB (!b) (R (iv (10:Int))) (R (iv (0:Int)))))) (by kernel_rfl) ?_)
 obtain ⟨k1,k2,k3⟩:=hq
 refine areCells50 (by omega) (onBool_bv (ifB_mk (fun d=>h2 (fun p=>by rw [dc_t p.1] at d; cases d)) (fun d=>?_)))
 have hc:CellsP q.1:=dc_true (by cases hq:dc (CellsP q.1) with | true=>rfl | false=>rw [hq] at d; cases d)
 refine areKnobs51 k1 hc.2.1 (by omega) (onBool_bv (ifB_mk (fun d=>h2 (fun p=>by rw [dc_t p.2.1] at d; cases d)) (fun d=>?_)))
 have hk:KnobsP q.1 q.2.1:=dc_true (by cases hq:dc (KnobsP q.1 q.2.1) with | true=>rfl | false=>rw [hq] at d; cases d)
 refine within52 (onBool_bv (ifB_mk (fun d=>h2 (fun p=>by rw [dc_t p.2.2] at d; cases d)) (fun d=>h1 ⟨hc,hk,?_⟩)))
 exact dc_true (by cases hq:dc (1≤q.2.2∧q.2.2≤100) with | true=>rfl | false=>rw [hq] at d; cases d)
def KindsP (l:List Kd):Prop:=l.length≤16 ∧ ∀ q∈l,KindP q
theorem kinds16 {l:List Kd} {R:V→Prop} (hl : ∀ q∈l,KdR q) (h1:KindsP l→R (iv 0)) (h2:16<l.length→R (iv 4)) (h3:l.length≤16 → ¬ KindsP l→R (iv 10)):K0G Tryd.prog glX 31 [.lst 3 (kdl l)] R:=by
 refine K0_of_WY0 hmX hcC 3000 Tryd.func31 (see (p:=ifB (decide ((↑(kdl l).length:Int) > (16:Int))) (R (iv (4:Int))) (La 0 [(9:Tmp),(10:Tmp),(11:Tmp)] (WY Tryd.prog cfC 2994 (Env.mk (Bs.mk 0 []) 0 none 21 31 0) (cdAt [1,1,0,1,0,0] (bodyOf Tryd.f31))) (Qblk 0 (Qthen (WY Tryd.prog cfC 2997 (Env.mk (Bs.mk 0 []) 0 none 21 31 0) (cdAt [1,1,1] (bodyOf Tryd.f31)) (QendX Tryd.prog Tryd.f31 fun v h=>R (frzW h v))) (QendX Tryd.prog Tryd.f31 fun v h=>R (frzW h v)))) (St.mk (mkT [(9,V.lst 3 (kdl l)),(10,iv (↑(kdl l).length:Int)),(11,iv (0:Int))]) (Hp.mk [] 0 [])))) (by kernel_rfl) ?_)
 rw [kdl_length]
 refine ifB_mk (fun c=>h2 (by have:=of_decide_eq_true c; omega)) (fun c=>?_)
 have h16:l.length≤16:=by have:=of_decide_eq_false c; omega
 refine La.of (σ:=Nat) (fun k=>sh16 l k) (fun k=>k≤l.length∧(∀ x∈l.take k,KindP x)) (fun k=>l.length - k) 0 (by rw [← kdl_length]; kernel_rfl) ⟨by omega,by simp⟩ ?_
 rintro k ⟨g1,g2⟩ J hJ
 refine see (p:=ifB (decide ((↑k:Int)<(↑(kdl l).length:Int))) (onSome (kdl l)[k]? fun row=>onCons (List.drop 0 row) fun u r=>onLst u fun s es=>onCons r fun u r=>onLst u fun s_1 es_1=>onCons r fun u r=>onIntK IntKind.i64 u fun n=>K0G Tryd.prog glX 49 [V.agg [V.lst s es,V.lst s_1 es_1,iv n]] fun v=>onIntK IntKind.i64 v fun n=>ifB (n != (0:Int)) (R (iv n)) (J (St.mk (mkT [(9,V.lst 3 (kdl l)),(10,iv (↑(kdl l).length:Int)),(11,iv (IntKind.i64.wrap ((↑k:Int)+(1:Int))))]) (Hp.mk [] 0 [])))) (R (iv (0:Int)))) (by kernel_rfl) ?_
 rw [kdl_length]
 refine ifB_mk (fun hb=>?_) (fun hb=>?_)
 ·have hlt:k<l.length:=by have:=of_decide_eq_true hb; omega
  obtain ⟨x,hx⟩:=getI hlt
  refine del hx (kind14 (q:=x) (hl x (mem_at hx)) (fun hp=>onIntK_iv (ifB_f rfl ?_)) (fun hn=>onIntK_iv (ifB_t rfl (h3 h16 (fun q=>hn (q.2 x (mem_at hx)))))))
  rw [wr1i hlt (by omega)]
  exact hJ' (by simp [sh16,kdl_length]) (hJ (k+1) ⟨hlt,all_take hx g2 hp⟩ (by omega))
 ·have hk:l.length≤k:=by have:=of_decide_eq_false hb; omega
  exact h1 ⟨h16,all_all hk g2⟩
set_option maxRecDepth 100000
noncomputable def cfR:Cfg:=cfgM Tryd.prog glX moZ tyZ (inN [21,22]) kpZ
noncomputable def sh93 (q:Kd) (k:Nat):St:=⟨mkT [(1,V.ptr (Id.p 0) 0 0),(3,iv (k:Int))],⟨[(0,O.rows 3 false [kdr q])],1,[]⟩⟩
set_option maxRecDepth 10000
theorem hcR:cfR.ok Tryd.prog:=cfgM_ok
theorem nb {p:Prop} (h:(!dc p)=false):p:=by cases hq:dc p with
 | true=>exact dc_true hq
 | false=>rw [hq] at h; cases h
theorem nbt {p:Prop} (h:(!dc p)=true) : ¬ p:=fun hp=>by rw [dc_t hp] at h; cases h
theorem before92 {a b:Cl} {R:V→Prop} (h:R (bv (dc (Bef a b)))):K0G Tryd.prog glX 55 [.agg (clr a),.agg (clr b)] R:=by
 refine K0_of_WY0 hmX hcR 3000 Tryd.func55 (see (p:=ifB (decide (a.2.2<b.2.2)) (R (bv true)) (ifB (a.2.2==b.2.2) (ifB (decide (a.2.1<b.2.1)) (R (bv true)) (ifB (a.2.1==b.2.1) (R (bv (decide (a.1<b.1)))) (R (bv false)))) (R (bv false)))) (by kernel_rfl) ?_)
 unfold Bef at h
 refine ifB_mk (fun c1=>rt h (.inl (of_decide_eq_true c1))) (fun c1=>ifB_mk (fun c2=>ifB_mk (fun c3=>rt h (.inr ⟨by simpa using c2,.inl (of_decide_eq_true c3)⟩)) (fun c3=>ifB_mk (fun c4=>rb h ?_) (fun c4=>rf h (fun q=>?_)))) (fun c2=>rf h (fun q=>?_)))
 ·have c1:=of_decide_eq_false c1
  have c3:=of_decide_eq_false c3
  have c2:a.2.2=b.2.2:=by simpa using c2
  have c4:a.2.1=b.2.1:=by simpa using c4
  exact ⟨fun q => .inr ⟨c2,.inr ⟨c4,of_decide_eq_true q⟩⟩,fun q=>decide_eq_true (by omega)⟩
 ·have c1:=of_decide_eq_false c1
  have c3:=of_decide_eq_false c3
  have c4:a.2.1≠b.2.1:=by simpa using c4
  omega
 ·have c1:=of_decide_eq_false c1
  have c2:a.2.2≠b.2.2:=by simpa using c2
  omega
theorem has42 {l:List Cl} {c:Cl} {R:V→Prop} (hl:(l.length:Int)≤1000000) (h:R (bv (dc (c∈l)))):K0G Tryd.prog glX 54 [.lst 3 (cll l),.agg (clr c)] R:=by
 refine K0_of_WY0 hmX hcR 3000 Tryd.func54 (see (p:=La 0 [(0:Tmp),(3:Tmp),(5:Tmp)] (WY Tryd.prog cfR 2995 (Env.mk (Bs.mk 0 []) 0 none 18 54 0) (cdAt [1,0,1,0,0] (bodyOf Tryd.f54))) (Qblk 0 (Qthen (WY Tryd.prog cfR 2998 (Env.mk (Bs.mk 0 []) 0 none 18 54 0) (cdAt [1,1] (bodyOf Tryd.f54)) (QendX Tryd.prog Tryd.f54 fun v h=>R (frzW h v))) (QendX Tryd.prog Tryd.f54 fun v h=>R (frzW h v)))) (St.mk (mkT [(0,V.lst 3 (cll l)),(3,V.ptr (Id.p 0) 0 0),(5,iv (0:Int))]) (Hp.mk [(0,O.rows 3 false [[iv c.1,iv c.2.1,iv c.2.2]])] 1 []))) (by kernel_rfl) ?_)
 refine La.of (σ:=Nat) (fun k=>sh42 l c k) (fun k=>k≤l.length ∧ ∀ x∈l.take k,x≠c) (fun k=>l.length - k) 0 (by kernel_rfl) ⟨by omega,by simp⟩ ?_
 rintro k ⟨g1,g2⟩ J hJ
 refine see (p:=ifB (decide ((↑k:Int)<(↑(cll l).length:Int))) (onSome (cll l)[k]? fun row=>onCons (List.drop 0 row) fun u r=>onIntK IntKind.i64 u fun n=>onCons r fun u r=>onIntK IntKind.i64 u fun n_1=>onCons r fun u r=>onIntK IntKind.i64 u fun n_2=>ifB (n==c.1&&(fun b=>n_1==c.2.1&&b) ((fun b=>n_2==c.2.2&&b) true)) (R (bv true)) (J (St.mk (mkT [(0,V.lst 3 (cll l)),(3,V.ptr (Id.p 0) 0 0),(5,iv (IntKind.i64.wrap ((↑k:Int)+(1:Int))))]) (Hp.mk [(0,O.rows 3 false [[iv c.1,iv c.2.1,iv c.2.2]])] 1 [])))) (R (bv false))) (by kernel_rfl) ?_
 rw [cll_length]
 refine ifB_mk (fun hb=>?_) (fun hb=>?_)
 ·have hlt:k<l.length:=by have:=of_decide_eq_true hb; omega
  obtain ⟨x,hx⟩:=getI hlt
  refine cel hx (ifB_mk (fun d=>?_) (fun d=>?_))
  ·simp only [Bool.and_eq_true,beq_iff_eq,Bool.and_true] at d
   have:x=c:=cl_ext d.1 d.2.1 d.2.2
   exact rt h (this ▸ mem_at hx)
  ·rw [wr1i hlt (by omega)]
   refine hJ (k+1) ⟨hlt,all_take hx g2 (fun e=>?_)⟩ (by omega)
   subst e
   simp at d
 ·have hk:l.length≤k:=by have:=of_decide_eq_false hb; omega
  exact rf h (fun hn=>(all_all hk g2 c hn rfl).elim)
theorem eq45_0 (R:V→Prop):R (V.agg [iv 1,iv 0,iv 0])=WY0 Tryd.prog cfR 3000 81 Tryd.f81 [iv 0] R:=by kernel_rfl
theorem step45_0 {R:V→Prop} (h:R (V.agg [iv 1,iv 0,iv 0])):K0G Tryd.prog glX 81 [iv 0] R:=K0_by hmX hcR 3000 Tryd.func81 (eq45_0 R) h
theorem eq45_1 (R:V→Prop):R (V.agg [iv (-1),iv 0,iv 0])=WY0 Tryd.prog cfR 3000 81 Tryd.f81 [iv 1] R:=by kernel_rfl
theorem step45_1 {R:V→Prop} (h:R (V.agg [iv (-1),iv 0,iv 0])):K0G Tryd.prog glX 81 [iv 1] R:=K0_by hmX hcR 3000 Tryd.func81 (eq45_1 R) h
theorem eq45_2 (R:V→Prop):R (V.agg [iv 0,iv 1,iv 0])=WY0 Tryd.prog cfR 3000 81 Tryd.f81 [iv 2] R:=by kernel_rfl
theorem step45_2 {R:V→Prop} (h:R (V.agg [iv 0,iv 1,iv 0])):K0G Tryd.prog glX 81 [iv 2] R:=K0_by hmX hcR 3000 Tryd.func81 (eq45_2 R) h
theorem eq45_3 (R:V→Prop):R (V.agg [iv 0,iv (-1),iv 0])=WY0 Tryd.prog cfR 3000 81 Tryd.f81 [iv 3] R:=by kernel_rfl
theorem step45_3 {R:V→Prop} (h:R (V.agg [iv 0,iv (-1),iv 0])):K0G Tryd.prog glX 81 [iv 3] R:=K0_by hmX hcR 3000 Tryd.func81 (eq45_3 R) h
theorem eq45_4 (R:V→Prop):R (V.agg [iv 0,iv 0,iv 1])=WY0 Tryd.prog cfR 3000 81 Tryd.f81 [iv 4] R:=by kernel_rfl
theorem step45_4 {R:V→Prop} (h:R (V.agg [iv 0,iv 0,iv 1])):K0G Tryd.prog glX 81 [iv 4] R:=K0_by hmX hcR 3000 Tryd.func81 (eq45_4 R) h
theorem eq45_5 (R:V→Prop):R (V.agg [iv 0,iv 0,iv (-1)])=WY0 Tryd.prog cfR 3000 81 Tryd.f81 [iv 5] R:=by kernel_rfl
theorem step45_5 {R:V→Prop} (h:R (V.agg [iv 0,iv 0,iv (-1)])):K0G Tryd.prog glX 81 [iv 5] R:=K0_by hmX hcR 3000 Tryd.func81 (eq45_5 R) h
theorem step45 {d:Int} {R:V→Prop} (h0:0≤d) (h5:d≤5) (h:R (.agg (clr (stp d)))):K0G Tryd.prog glX 81 [iv d] R:=by
 obtain ⟨m,rfl⟩ : ∃ m:Nat,d=(m:Int):=⟨d.toNat,by omega⟩
 have hm:m<6:=by omega
 match m,hm with
 | 0,_=>exact step45_0 h
 | 1,_=>exact step45_1 h
 | 2,_=>exact step45_2 h
 | 3,_=>exact step45_3 h
 | 4,_=>exact step45_4 h
 | 5,_=>exact step45_5 h
def Bd (b:Int) (c:Cl):Prop:=Nr (-b) b c
theorem plus99 {a b:Cl} {R:V→Prop} (ha:Bd 1000000 a) (hb:Bd 1000000 b) (h:R (.agg (clr (addC a b)))):K0G Tryd.prog glX 27 [.agg (clr a),.agg (clr b)] R:=by
 refine K0_of_WY0 hmX hcR 3000 Tryd.func27 (see (p:=R (V.agg [iv (IntKind.i64.wrap (a.1+b.1)),iv (IntKind.i64.wrap (a.2.1+b.2.1)),iv (IntKind.i64.wrap (a.2.2+b.2.2))])) (by kernel_rfl) ?_)
 unfold Bd Nr at ha hb
 rw [wr (n:=a.1+_) (by omega) (by omega),wr (n:=a.2.1+_) (by omega) (by omega),wr (n:=a.2.2+_) (by omega) (by omega)]
 exact h
theorem Nr.mono {a b c d:Int} {x:Cl} (h:Nr a b x) (h1:c≤a) (h2:b≤d):Nr c d x:=by
 obtain ⟨⟨c1,c2⟩,⟨c3,c4⟩,c5,c6⟩:=h
 exact ⟨⟨by omega,by omega⟩,⟨by omega,by omega⟩,by omega,by omega⟩
theorem onC {c:Cl} {k:Int→Int→Int→Prop} (h:k c.1 c.2.1 c.2.2):onAgg (V.agg (clr c)) fun cs=>onCons cs fun u r=>onIntK IntKind.i64 u fun n=>onCons r fun u r=>onIntK IntKind.i64 u fun n_1=>onCons r fun u r=>onIntK IntKind.i64 u fun n_2=>onNil r (k n n_1 n_2):=h
theorem knobbed93 {q:Kd} {R:V→Prop} (hr : ∀ k∈q.2.1,KnR k) (hc : ∀ c∈q.1,Nr 0 15 c) (hcl:(q.1.length:Int)≤1000000) (h:R (bv (dc (KnobsP q.1 q.2.1)))):K0G Tryd.prog glX 67 [.agg (kdr q)] R:=by
 refine K0_of_WY0 hmX hcR 3000 Tryd.func67 (see (p:=ifB (decide ((↑(knl q.2.1).length:Int) > (48:Int))) (R (bv false)) (La 0 [(1:Tmp),(3:Tmp)] (WY Tryd.prog cfR 2994 (Env.mk (Bs.mk 0 []) 0 none 83 67 0) (cdAt [1,1,0,1,0,0] (bodyOf Tryd.f67))) (Qblk 0 (Qthen (WY Tryd.prog cfR 2997 (Env.mk (Bs.mk 0 []) 0 none 83 67 0) (cdAt [1,1,1] (bodyOf Tryd.f67)) (QendX Tryd.prog Tryd.f67 fun v h=>R (frzW h v))) (QendX Tryd.prog Tryd.f67 fun v h=>R (frzW h v)))) (St.mk (mkT [(1,V.ptr (Id.p 0) 0 0),(3,iv (0:Int))]) (Hp.mk [(0,O.rows 3 false [[V.lst 3 (cll q.1),V.lst 5 (knl q.2.1),iv q.2.2]])] 1 [])))) (by kernel_rfl) ?_)
 rw [knl_length]
 refine ifB_mk (fun c=>rf h (fun q=>by have:=q.1; have:=of_decide_eq_true c; omega)) (fun c=>?_)
 have h48:q.2.1.length≤48:=by have:=of_decide_eq_false c; omega
 refine La.of (σ:=Nat) (fun k=>sh93 q k) (fun k=>k≤q.2.1.length∧(∀ x∈q.2.1.take k,KnobP q.1 x)∧(q.2.1.take k).Pairwise BefK) (fun k=>q.2.1.length - k) 0 (by kernel_rfl) ⟨by omega,by simp,by simp⟩ ?_
 rintro k ⟨g1,g2,g3⟩ J hJ
 refine see (p:=ifB (decide ((↑k:Int)<(↑(knl q.2.1).length:Int))) (onSome (knl q.2.1)[k]? fun row=>onCons (List.drop 0 row) fun u r=>onIntK IntKind.i64 u fun n=>onCons r fun u r=>onIntK IntKind.i64 u fun n_1=>onCons r fun u r=>onIntK IntKind.i64 u fun n_2=>onCons r fun u r=>onIntK IntKind.u8 u fun n_3=>onCons r fun u r=>onIntK IntKind.u8 u fun n_4=>K0G Tryd.prog glX 54 [V.lst 3 (cll q.1),V.agg [iv n,iv n_1,iv n_2]] fun v=>onBool v fun b=>ifB (!b) (R (bv false)) (ifB (decide (n_3 > (5:Int))) (R (bv false)) (K0G Tryd.prog glX 81 [iv (IntKind.i64.wrap n_3)] fun v=>onAgg v fun cs=>onCons cs fun u r=>onIntK IntKind.i64 u fun n_5=>onCons r fun u r=>onIntK IntKind.i64 u fun n_6=>onCons r fun u r=>onIntK IntKind.i64 u fun n_7=>onNil r (K0G Tryd.prog glX 27 [V.agg [iv n,iv n_1,iv n_2],V.agg [iv n_5,iv n_6,iv n_7]] fun v=>onAgg v fun cs=>onCons cs fun u r=>onIntK IntKind.i64 u fun n_8=>onCons r fun u r=>onIntK IntKind.i64 u fun n_9=>onCons r fun u r=>onIntK IntKind.i64 u fun n_10=>onNil r (K0G Tryd.prog glX 54 [V.lst 3 (cll q.1),V.agg [iv n_8,iv n_9,iv n_10]] fun v=>onBool v fun b=>ifB b (R (bv false)) (ifB (decide (n_4<(1:Int))) (R (bv false)) (ifB (decide (n_4 > (6:Int))) (R (bv false)) (ifB (decide ((↑k:Int) > (0:Int))) (onNat (IntKind.i64.wrap ((↑k:Int) - (1:Int))) fun m=>onSome (knl q.2.1)[m]? fun row=>onCons (List.drop 0 row) fun u r=>onIntK IntKind.i64 u fun n_11=>onCons r fun u r=>onIntK IntKind.i64 u fun n_12=>onCons r fun u r=>onIntK IntKind.i64 u fun n_13=>onCons r fun u r=>onIntK IntKind.u8 u fun n_14=>onCons r fun u r=>onIntK IntKind.u8 u fun n_15=>K0G Tryd.prog glX 55 [V.agg [iv n_11,iv n_12,iv n_13],V.agg [iv n,iv n_1,iv n_2]] fun v=>onBool v fun b=>ifB (!b) (ifB (!(fun b=>n_11==n&&b) ((fun b=>n_12==n_1&&b) ((fun b=>n_13==n_2&&b) true))) (R (bv false)) (ifB (decide (n_14 ≥ n_3)) (R (bv false)) (J (St.mk (mkT [(1,V.ptr (Id.p 0) 0 0),(3,iv (IntKind.i64.wrap ((↑k:Int)+(1:Int))))]) (Hp.mk [(0,O.rows 3 false [[V.lst 3 (cll q.1),V.lst 5 (knl q.2.1),iv q.2.2]])] 1 []))))) (J (St.mk (mkT [(1,V.ptr (Id.p 0) 0 0),(3,iv (IntKind.i64.wrap ((↑k:Int)+(1:Int))))]) (Hp.mk [(0,O.rows 3 false [[V.lst 3 (cll q.1),V.lst 5 (knl q.2.1),iv q.2.2]])] 1 [])))) (J (St.mk (mkT [(1,V.ptr (Id.p 0) 0 0),(3,iv (IntKind.i64.wrap ((↑k:Int)+(1:Int))))]) (Hp.mk [(0,O.rows 3 false [[V.lst 3 (cll q.1),V.lst 5 (knl q.2.1),iv q.2.2]])] 1 []))))))))))) (R (bv true))) (by kernel_rfl) ?_
 rw [knl_length]
 refine ifB_mk (fun hb=>?_) (fun hb=>?_)
 ·have hlt:k<q.2.1.length:=by have:=of_decide_eq_true hb; omega
  obtain ⟨x,hx⟩:=getI hlt
  obtain ⟨⟨r1,r2⟩,r3,r4⟩:=hr x (mem_at hx)
  have no : ¬ KnobP q.1 x→R (bv false):=fun hn=>rf h (fun w=>hn (w.2.1 x (mem_at hx)))
  refine kel hx (has42 (c:=x.1) hcl (onBool_bv (ifB_mk (fun d=>no (fun w=>nbt d w.2.2.1)) (fun d=>?_))))
  have hm:=nb d
  refine ifB_mk (fun d=>no (fun w=>by have:=w.1; have:=of_decide_eq_true d; omega)) (fun d=>?_)
  have d5:x.2.1≤5:=by have:=of_decide_eq_false d; omega
  rw [wr (n:=x.2.1) (by omega) (by omega)]
  refine step45 r1 d5 (onC (plus99 (a:=x.1) (b:=stp x.2.1) ((hc _ hm).mono (by omega) (by omega)) ((stp_bd _).mono (by omega) (by omega)) (onC ?_)))
  refine has42 (c:=addC x.1 (stp x.2.1)) hcl (onBool_bv (ifB_mk (fun d=>no (fun w=>w.2.2.2 (dc_true d))) (fun d=>?_)))
  have hnm:=dc_false d
  refine ifB_mk (fun d=>no (fun w=>by have:=w.2.1.1; have:=of_decide_eq_true d; omega)) (fun e1=>?_)
  refine ifB_mk (fun d=>no (fun w=>by have:=w.2.1.2; have:=of_decide_eq_true d; omega)) (fun e2=>?_)
  have hn:KnobP q.1 x:=⟨d5,⟨by have:=of_decide_eq_false e1; omega,by have:=of_decide_eq_false e2; omega⟩,hm,hnm⟩
  have nxt:(k=0 ∨ ∃ y,q.2.1[k - 1]? = some y∧BefK y x)→J (sh93 q (k+1)):=fun hp=>hJ (k+1) ⟨hlt,all_take hx g2 hn,pw_take BefK.tr hx g3 hp⟩ (by omega)
  refine ifB_mk (fun e=>?_) (fun e=>?_)
  ·have hk:0<k:=by have:=of_decide_eq_true e; omega
   obtain ⟨y,hy⟩:=getI (l:=q.2.1) (k:=k - 1) (by omega)
   have bad : ¬ BefK y x→R (bv false):=fun hn=>rf h (fun w=>hn (pw_at w.2.2 hx hy hk))
   refine onNat_mk (m:=k - 1) (by rw [wr (by omega) (by omega)]; omega) (kel hy (before92 (a:=y.1) (b:=x.1) (onBool_bv (ifB_mk (fun f=>?_) (fun f=>?_)))))
   ·have f:=nbt f
    refine ifB_mk (fun g=>bad (fun w=>?_)) (fun g=>?_)
    ·rcases w with w | ⟨w,_⟩
     ·exact f w
     ·simp [w] at g
    ·have g:y.1=x.1:=by
      simp only [Bool.not_eq_false', Bool.and_eq_true,beq_iff_eq,Bool.and_true] at g
      exact cl_ext g.1 g.2.1 g.2.2
     refine ifB_mk (fun u=>bad (fun w=>?_)) (fun u=>?_)
     ·rcases w with w | ⟨_,w⟩
      ·exact f w
      ·have:=of_decide_eq_true u; omega
     ·rw [wr1i hlt (by omega)]
      exact nxt (.inr ⟨y,hy,.inr ⟨g,by have:=of_decide_eq_false u; omega⟩⟩)
   ·rw [wr1i hlt (by omega)]
    exact nxt (.inr ⟨y,hy,.inl (nb f)⟩)
  ·rw [wr1i hlt (by omega)]
   exact nxt (.inl (by have:=of_decide_eq_false e; omega))
 ·have hk:q.2.1.length≤k:=by have:=of_decide_eq_false hb; omega
  rw [List.take_of_length_le hk] at g3
  exact rt h ⟨h48,all_all hk g2,g3⟩
theorem valid53 {q:Kd} {R:V→Prop} (hq:KdR q) (h:R (bv (dc (KindP q)))):K0G Tryd.prog glX 53 [.agg (kdr q)] R:=by
 refine K0_of_WY0 hmX hcR 3000 Tryd.func53 (see (p:=ifB (decide ((↑(cll q.1).length:Int)<(1:Int))) (R (bv false)) (ifB (decide ((↑(cll q.1).length:Int) > (24:Int))) (R (bv false)) (K0G Tryd.prog glX 46 [iv q.2.2,iv (1:Int),iv (100:Int)] fun v=>onBool v fun b=>ifB (!b) (R (bv false)) (La 0 [(1:Tmp),(3:Tmp)] (WY Tryd.prog cfR 2994 (Env.mk (Bs.mk 0 []) 0 none 55 53 0) (cdAt [1,1,0,1,0,0] (bodyOf Tryd.f53))) (Qblk 0 (Qthen (WY Tryd.prog cfR 2997 (Env.mk (Bs.mk 0 []) 0 none 55 53 0) (cdAt [1,1,1] (bodyOf Tryd.f53)) (QendX Tryd.prog Tryd.f53 fun v h=>R (frzW h v))) (QendX Tryd.prog Tryd.f53 fun v h=>R (frzW h v)))) (St.mk (mkT [(1,V.ptr (Id.p 0) 0 0),(3,iv (0:Int))]) (Hp.mk [(0,O.rows 3 false [[V.lst 3 (cll q.1),V.lst 5 (knl q.2.1),iv q.2.2]])] 1 [])))))) (by kernel_rfl) ?_)
 obtain ⟨k1,k2,k3⟩:=hq
 rw [cll_length]
 refine ifB_mk (fun c=>rf h (fun w=>by have:=w.1.1.1; have:=of_decide_eq_true c; omega)) (fun c1=>ifB_mk (fun c=>rf h (fun w=>by have:=w.1.1.2; have:=of_decide_eq_true c; omega)) (fun c2=>within87 (onBool_bv (ifB_mk (fun c=>rf h (fun w=>nbt c w.2.2)) (fun c3=>?_)))))
 have c1:=of_decide_eq_false c1
 have c2:=of_decide_eq_false c2
 have c3:=nb c3
 refine La.of (σ:=Nat) (fun k=>sh53 q k) (fun k=>k≤q.1.length∧(∀ x∈q.1.take k,Nr 0 15 x)∧(q.1.take k).Pairwise Bef) (fun k=>q.1.length - k) 0 (by kernel_rfl) ⟨by omega,by simp,by simp⟩ ?_
 rintro k ⟨g1,g2,g3⟩ J hJ
 refine see (p:=ifB (decide ((↑k:Int)<(↑(cll q.1).length:Int))) (onSome (cll q.1)[k]? fun row=>onCons (List.drop 0 row) fun u r=>onIntK IntKind.i64 u fun n=>onCons r fun u r=>onIntK IntKind.i64 u fun n_1=>onCons r fun u r=>onIntK IntKind.i64 u fun n_2=>K0G Tryd.prog glX 26 [V.agg [iv n,iv n_1,iv n_2],iv (0:Int),iv (15:Int)] fun v=>onBool v fun b=>ifB (!b) (R (bv false)) (ifB (decide ((↑k:Int) > (0:Int))) (onNat (IntKind.i64.wrap ((↑k:Int) - (1:Int))) fun m=>onSome (cll q.1)[m]? fun row=>onCons (List.drop 0 row) fun u r=>onIntK IntKind.i64 u fun n=>onCons r fun u r=>onIntK IntKind.i64 u fun n_3=>onCons r fun u r=>onIntK IntKind.i64 u fun n_4=>onSome (cll q.1)[k]? fun row=>onCons (List.drop 0 row) fun u r=>onIntK IntKind.i64 u fun n_5=>onCons r fun u r=>onIntK IntKind.i64 u fun n_6=>onCons r fun u r=>onIntK IntKind.i64 u fun n_7=>K0G Tryd.prog glX 55 [V.agg [iv n,iv n_3,iv n_4],V.agg [iv n_5,iv n_6,iv n_7]] fun v=>onBool v fun b=>ifB (!b) (R (bv false)) (J (St.mk (mkT [(1,V.ptr (Id.p 0) 0 0),(3,iv (IntKind.i64.wrap ((↑k:Int)+(1:Int))))]) (Hp.mk [(0,O.rows 3 false [[V.lst 3 (cll q.1),V.lst 5 (knl q.2.1),iv q.2.2]])] 1 [])))) (J (St.mk (mkT [(1,V.ptr (Id.p 0) 0 0),(3,iv (IntKind.i64.wrap ((↑k:Int)+(1:Int))))]) (Hp.mk [(0,O.rows 3 false [[V.lst 3 (cll q.1),V.lst 5 (knl q.2.1),iv q.2.2]])] 1 []))))) (K0G Tryd.prog glX 67 [V.agg [V.lst 3 (cll q.1),V.lst 5 (knl q.2.1),iv q.2.2]] fun v=>onBool v fun b=>R (bv b))) (by kernel_rfl) ?_
 rw [cll_length]
 refine ifB_mk (fun hb=>?_) (fun hb=>?_)
 ·have hlt:k<q.1.length:=by have:=of_decide_eq_true hb; omega
  obtain ⟨x,hx⟩:=getI hlt
  refine cel hx (near49 (c:=x) (onBool_bv (ifB_mk (fun d=>rf h (fun w=>nbt d (w.1.2.1 x (mem_at hx)))) (fun d=>?_))))
  have hn:=nb d
  have nxt:(k=0 ∨ ∃ y,q.1[k - 1]? = some y∧Bef y x)→J (sh53 q (k+1)):=fun hp=>hJ (k+1) ⟨hlt,all_take hx g2 hn,pw_take Bef.tr hx g3 hp⟩ (by omega)
  refine ifB_mk (fun e=>?_) (fun e=>?_)
  ·have hk:0<k:=by have:=of_decide_eq_true e; omega
   obtain ⟨y,hy⟩:=getI (l:=q.1) (k:=k - 1) (by omega)
   refine onNat_mk (m:=k - 1) (by rw [wr (by omega) (by omega)]; omega) (cel hy (cel hx (before92 (a:=y) (b:=x) (onBool_bv (ifB_mk (fun f=>rf h (fun w=>nbt f (pw_at w.1.2.2 hx hy hk))) (fun f=>?_))))))
   rw [wr1i hlt (by omega)]
   exact nxt (.inr ⟨y,hy,nb f⟩)
  ·rw [wr1i hlt (by omega)]
   exact nxt (.inl (by have:=of_decide_eq_false e; omega))
 ·have hk:q.1.length≤k:=by have:=of_decide_eq_false hb; omega
  rw [List.take_of_length_le hk] at g3
  have hc:=all_all hk g2
  refine knobbed93 k1 hc (by omega) (onBool_bv (rb h ⟨fun w=>⟨⟨⟨by omega,by omega⟩,hc,g3⟩,dc_true w,c3⟩,fun w=>dc_t w.2.1⟩))
theorem kinds17 {l:List Kd} {R:V→Prop} (hl : ∀ q∈l,KdR q) (h1:KindsP l→R (iv 0)) (h2:16<l.length→R (iv 4)) (h3:l.length≤16 → ¬ KindsP l→R (iv 10)):K0G Tryd.prog glX 34 [.lst 3 (kdl l)] R:=by
 refine K0_of_WY0 hmX hcR 3000 Tryd.func34 (see (p:=ifB (decide ((↑(kdl l).length:Int) > (16:Int))) (R (iv (4:Int))) (La 0 [(0:Tmp),(3:Tmp)] (WY Tryd.prog cfR 2994 (Env.mk (Bs.mk 0 []) 0 none 19 34 0) (cdAt [1,1,0,1,0,0] (bodyOf Tryd.f34))) (Qblk 0 (Qthen (WY Tryd.prog cfR 2997 (Env.mk (Bs.mk 0 []) 0 none 19 34 0) (cdAt [1,1,1] (bodyOf Tryd.f34)) (QendX Tryd.prog Tryd.f34 fun v h=>R (frzW h v))) (QendX Tryd.prog Tryd.f34 fun v h=>R (frzW h v)))) (St.mk (mkT [(0,V.lst 3 (kdl l)),(3,iv (0:Int))]) (Hp.mk [] 0 [])))) (by kernel_rfl) ?_)
 rw [kdl_length]
 refine ifB_mk (fun c=>h2 (by have:=of_decide_eq_true c; omega)) (fun c=>?_)
 have h16:l.length≤16:=by have:=of_decide_eq_false c; omega
 refine La.of (σ:=Nat) (fun k=>sh17 l k) (fun k=>k≤l.length∧(∀ x∈l.take k,KindP x)) (fun k=>l.length - k) 0 (by kernel_rfl) ⟨by omega,by simp⟩ ?_
 rintro k ⟨g1,g2⟩ J hJ
 refine see (p:=ifB (decide ((↑k:Int)<(↑(kdl l).length:Int))) (onSome (kdl l)[k]? fun row=>onCons (List.drop 0 row) fun u r=>onLst u fun s es=>onCons r fun u r=>onLst u fun s_1 es_1=>onCons r fun u r=>onIntK IntKind.i64 u fun n=>K0G Tryd.prog glX 53 [V.agg [V.lst s es,V.lst s_1 es_1,iv n]] fun v=>onBool v fun b=>ifB (!b) (R (iv (10:Int))) (J (St.mk (mkT [(0,V.lst 3 (kdl l)),(3,iv (IntKind.i64.wrap ((↑k:Int)+(1:Int))))]) (Hp.mk [] 0 [])))) (R (iv (0:Int)))) (by kernel_rfl) ?_
 rw [kdl_length]
 refine ifB_mk (fun hb=>?_) (fun hb=>?_)
 ·have hlt:k<l.length:=by have:=of_decide_eq_true hb; omega
  obtain ⟨x,hx⟩:=getI hlt
  refine del hx (valid53 (q:=x) (hl x (mem_at hx)) (onBool_bv (ifB_mk (fun c=>h3 h16 (fun q=>nbt c (q.2 x (mem_at hx)))) (fun c=>?_))))
  rw [wr1i hlt (by omega)]
  exact hJ (k+1) ⟨hlt,all_take hx g2 (nb c)⟩ (by omega)
 ·have hk:l.length≤k:=by have:=of_decide_eq_false hb; omega
  exact h1 ⟨h16,all_all hk g2⟩
def BrickP (n:Nat) (b:Bk):Prop:=(0≤b.1∧b.1<(n:Int))∧Bd 1000 b.2.1∧b.2.2.1<24∧b.2.2.2≤15
def BkR (b:Bk):Prop:=(0≤b.2.2.1∧b.2.2.1≤255)∧0≤b.2.2.2∧b.2.2.2≤255
theorem brick47 {l:List Kd} {b:Bk} {R:V→Prop} (hl:(l.length:Int)≤1000000) (h:R (bv (dc (BrickP l.length b)))):K0G Tryd.prog glX 30 [.lst 3 (kdl l),.agg (bkr b)] R:=by
 refine K0_of_WY0 hmX hcR 3000 Tryd.func30 (see (p:=K0G Tryd.prog glX 46 [iv b.1,iv (0:Int),iv (IntKind.i64.wrap ((↑(kdl l).length:Int) - (1:Int)))] fun v=>onBool v fun b_1=>ifB b_1 (K0G Tryd.prog glX 26 [V.agg [iv b.2.1.1,iv b.2.1.2.1,iv b.2.1.2.2],iv (-1000:Int),iv (1000:Int)] fun v=>onBool v fun b_2=>ifB b_2 (ifB (decide (b.2.2.1<(24:Int))) (R (bv (decide (b.2.2.2≤(15:Int))))) (R (bv false))) (R (bv false))) (R (bv false))) (by kernel_rfl) ?_)
 rw [kdl_length,wr (n:=(l.length:Int) - 1) (by omega) (by omega)]
 refine within87 (onBool_bv (ifB_mk (fun c1=>near49 (c:=b.2.1) (onBool_bv (ifB_mk (fun c2=>ifB_mk (fun c3=>rb h ?_) (fun c3=>rf h (fun q=>of_decide_eq_false c3 q.2.2.1))) (fun c2=>rf h (fun q=>dc_false c2 q.2.1))))) (fun c1=>rf h (fun q=>dc_false c1 ⟨q.1.1,by have:=q.1.2; omega⟩))))
 have c1:=dc_true c1
 exact ⟨fun q=>⟨⟨c1.1,by omega⟩,dc_true c2,of_decide_eq_true c3,of_decide_eq_true q⟩,fun q=>decide_eq_true q.2.2.2⟩
theorem brick98 {l:List Kd} {b:Bk} {R:V→Prop} (hb:BkR b) (hl:(l.length:Int)≤1000000) (h:R (bv (dc (BrickP l.length b)))):K0G Tryd.prog glX 45 [.lst 3 (kdl l),.agg (bkr b)] R:=by
 refine K0_of_WY0 hmX hcR 3000 Tryd.func45 (see (p:=K0G Tryd.prog glX 37 [iv b.1,iv (0:Int),iv (IntKind.i64.wrap ((↑(kdl l).length:Int) - (1:Int)))] fun v=>onBool v fun b_1=>ifB b_1 (K0G Tryd.prog glX 38 [V.agg [iv b.2.1.1,iv b.2.1.2.1,iv b.2.1.2.2],iv (-1000:Int),iv (1000:Int)] fun v=>onBool v fun b_2=>ifB b_2 (K0G Tryd.prog glX 37 [iv (IntKind.i64.wrap b.2.2.1),iv (0:Int),iv (23:Int)] fun v=>onBool v fun b_3=>ifB b_3 (R (bv (decide (b.2.2.2≤(15:Int))))) (R (bv false))) (R (bv false))) (R (bv false))) (by kernel_rfl) ?_)
 obtain ⟨⟨b1,b2⟩,b3,b4⟩:=hb
 rw [kdl_length,wr (n:=(l.length:Int) - 1) (by omega) (by omega),wr (n:=b.2.2.1) (by omega) (by omega)]
 refine within52 (onBool_bv (ifB_mk (fun c1=>near84 (c:=b.2.1) (onBool_bv (ifB_mk (fun c2=>within52 (onBool_bv (ifB_mk (fun c3=>rb h ?_) (fun c3=>rf h (fun q=>dc_false c3 ⟨b1,by have:=q.2.2.1; omega⟩))))) (fun c2=>rf h (fun q=>dc_false c2 q.2.1))))) (fun c1=>rf h (fun q=>dc_false c1 ⟨q.1.1,by have:=q.1.2; omega⟩))))
 have c1:=dc_true c1
 have c3:=dc_true c3
 exact ⟨fun q=>⟨⟨c1.1,by omega⟩,dc_true c2,by omega,of_decide_eq_true q⟩,fun q=>decide_eq_true q.2.2.2⟩
def askE (l:List Kd) (b:Bk) (e:Int):Prop:=(16<l.length∧e=4)∨(l.length≤16 ∧ ¬ KindsP l∧e=10)∨(KindsP l ∧ ¬ BrickP l.length b∧e=11)∨(KindsP l∧BrickP l.length b∧e=0)
theorem askE.ok {l:List Kd} {b:Bk} (h:askE l b 0):KindsP l∧BrickP l.length b:=by
 rcases h with ⟨h1,h2⟩ | ⟨h1,h2,h3⟩ | ⟨h1,h2,h3⟩ | ⟨h1,h2,h3⟩
 ·omega
 ·omega
 ·omega
 ·exact ⟨h1,h2⟩
def GreatP (l:List Kd) (m:List Bk):Prop:=20<l.length∨45<m.length ∨ ∃ q∈l,30<q.1.length∨60<q.2.1.length
theorem del0 {l:List Kd} {i:Nat} {q:Kd} {k:Nat→List (List V)→Prop} (h:l[i]? = some q) (hk:k 3 (cll q.1)):onSome (kdl l)[i]? fun row=>onSome row[0]? fun v=>onLst v fun s es=>k s es:=onSome_mk (by simp [kdl,h]:(kdl l)[i]? = some (kdr q)) hk
theorem del1 {l:List Kd} {i:Nat} {q:Kd} {k:Nat→List (List V)→Prop} (h:l[i]? = some q) (hk:k 5 (knl q.2.1)):onSome (kdl l)[i]? fun row=>onSome row[1]? fun v=>onLst v fun s es=>k s es:=onSome_mk (by simp [kdl,h]:(kdl l)[i]? = some (kdr q)) hk
theorem great12 {l:List Kd} {m:List Bk} {R:V→Prop} (h:R (bv (dc (GreatP l m)))):K0G Tryd.prog glX 4 [.lst 3 (kdl l),.agg [.lst 6 (bkl m)]] R:=by
 refine K0_of_WY0 hmX hcR 3000 Tryd.func4 (see (p:=ifB (decide ((↑(kdl l).length:Int) > (20:Int))) (R (bv true)) (ifB (decide ((↑(bkl m).length:Int) > (45:Int))) (R (bv true)) (La 0 [(0:Tmp),(5:Tmp)] (WY Tryd.prog cfR 2994 (Env.mk (Bs.mk 0 []) 0 none 37 4 0) (cdAt [1,1,0,1,0,0] (bodyOf Tryd.f4))) (Qblk 0 (Qthen (WY Tryd.prog cfR 2997 (Env.mk (Bs.mk 0 []) 0 none 37 4 0) (cdAt [1,1,1] (bodyOf Tryd.f4)) (QendX Tryd.prog Tryd.f4 fun v h=>R (frzW h v))) (QendX Tryd.prog Tryd.f4 fun v h=>R (frzW h v)))) (St.mk (mkT [(0,V.lst 3 (kdl l)),(5,iv (0:Int))]) (Hp.mk [] 0 []))))) (by kernel_rfl) ?_)
 rw [kdl_length,bkl_length]
 refine ifB_mk (fun c=>rt h (.inl (by have:=of_decide_eq_true c; omega))) (fun c1=>ifB_mk (fun c=>rt h (.inr (.inl (by have:=of_decide_eq_true c; omega)))) (fun c2=>?_))
 have c1:l.length≤20:=by have:=of_decide_eq_false c1; omega
 have c2:m.length≤45:=by have:=of_decide_eq_false c2; omega
 refine La.of (σ:=Nat) (fun k=>sh12 l k) (fun k=>k≤l.length∧(∀ x∈l.take k, ¬ (30<x.1.length∨60<x.2.1.length))) (fun k=>l.length - k) 0 (by kernel_rfl) ⟨by omega,by simp⟩ ?_
 rintro k ⟨g1,g2⟩ J hJ
 refine see (p:=ifB (decide ((↑k:Int)<(↑(kdl l).length:Int))) (onSome (kdl l)[k]? fun row=>onSome row[0]? fun v=>onLst v fun s es=>ifB (decide ((↑es.length:Int) > (30:Int))) (R (bv true)) (onSome (kdl l)[k]? fun row=>onSome row[1]? fun v=>onLst v fun s es=>ifB (decide ((↑es.length:Int) > (60:Int))) (R (bv true)) (J (St.mk (mkT [(0,V.lst 3 (kdl l)),(5,iv (IntKind.i64.wrap ((↑k:Int)+(1:Int))))]) (Hp.mk [] 0 []))))) (R (bv false))) (by kernel_rfl) ?_
 rw [kdl_length]
 refine ifB_mk (fun hb=>?_) (fun hb=>?_)
 ·have hlt:k<l.length:=by have:=of_decide_eq_true hb; omega
  obtain ⟨x,hx⟩:=getI hlt
  refine del0 hx ?_
  rw [cll_length]
  refine ifB_mk (fun c=>rt h (.inr (.inr ⟨x,mem_at hx,.inl (by have:=of_decide_eq_true c; omega)⟩))) (fun c=>del1 hx ?_)
  rw [knl_length]
  refine ifB_mk (fun d=>rt h (.inr (.inr ⟨x,mem_at hx,.inr (by have:=of_decide_eq_true d; omega)⟩))) (fun d=>?_)
  rw [wr1i hlt (by omega)]
  exact hJ (k+1) ⟨hlt,all_take hx g2 (by have:=of_decide_eq_false c; have:=of_decide_eq_false d; omega)⟩ (by omega)
 ·have hk:l.length≤k:=by have:=of_decide_eq_false hb; omega
  refine rf h ?_
  rintro (q | q | ⟨x,hx,q⟩)
  ·omega
  ·omega
  ·exact all_all hk g2 x hx q
set_option maxRecDepth 100000
def fZ:V:=V.fn (Fn.func 57) [] []
def fX:V:=V.fn (Fn.func 56) [] []
def fN:V:=V.raw Value.nilFunc
def chA (k:Int):V:=V.agg [fZ,iv k,fN,iv 0,fN,iv 0]
def chB (k s:Int):V:=V.agg [fZ,iv k,fX,iv s,fN,iv 0]
def chC (k j:Int):V:=V.agg [fZ,iv k,fX,iv 1,fZ,iv j]
noncomputable def cfT:Cfg:=cfgM Tryd.prog glX moZ tyZ (inN [56,57]) (fun _ _=>none)
noncomputable def cfU:Cfg:=cfgM Tryd.prog glX moZ tyZ (inN [56,57,41]) (fun _ _=>none)
noncomputable def cfV:Cfg:=cfgM Tryd.prog glX moZ tyZ (inN [47,48]) (fun _ _=>none)
end Go.Proofs.YtbionhgjgcpogaaDoor
