/- A part of the proof. -/
import Derived.Test.YtkkgicjioajimaaDoorProg
import Derived.Test.YtkkgicjioajimaaDoorXA7G9
namespace Go.Proofs.YtkkgicjioajimaaDoor.Clean
set_option linter.unusedVariables false
def forceN (n:Nat) (k:Nat→Prop):Prop:=match n with
 | 0=>k 0
 | m+1=>k (m+1)
def forceV (v:V) (k:V→Prop):Prop:=match v with
 | .raw x=>k (.raw x)
 | .ptr b i o=>k (.ptr b i o)
 | .sl b lo n=>k (.sl b lo n)
 | .lst s es=>k (.lst s es)
 | v=>k v
def forceRow:List V→(List V→Prop)→Prop
 | [],k=>k []
 | v::r,k=>forceV v fun v=>forceRow r fun r=>k (v::r)
def forceArg (v:V) (k:V→Prop):Prop:=match v with
 | .agg cs=>forceRow cs fun cs=>k (.agg cs)
 | .fn f a c=>forceRow a fun a=>forceRow c fun c=>k (.fn f a c)
 | v=>forceV v k
def forceArgs:List V→(List V→Prop)→Prop
 | [],k=>k []
 | v::r,k=>forceArg v fun v=>forceArgs r fun r=>k (v::r)
def forceRows:List (List V)→(List (List V)→Prop)→Prop
 | [],k=>k []
 | v::r,k=>forceRow v fun v=>forceRows r fun r=>k (v::r)
def forceO (o:O) (k:O→Prop):Prop:=match o with
 | .rows s true es=>k (.rows s true es)
 | .rows s false es=>forceRows es fun es=>k (.rows s false es)
 | .mp es=>k (.mp es)
 | .lp q=>k (.lp q)
 | .it x n l=>k (.it x n l)
def forceBs:List (Nat×O)→(List (Nat×O)→Prop)→Prop
 | [],k=>k []
 | (a,o)::r,k=>forceN a fun a=>forceO o fun o=>forceBs r fun r=>k ((a,o)::r)
def forceH (h:Hp) (k:Hp→Prop):Prop:=match h with
 | ⟨bs,n,fs⟩=>forceBs bs fun bs=>forceN n fun n=>k ⟨bs,n,fs⟩
def forceIds:List Id→(List Id→Prop)→Prop
 | [],k=>k []
 | .p n::r,k=>forceN n fun n=>forceIds r fun r=>k (.p n::r)
 | .m B j::r,k=>forceIds r fun r=>k (.m B j::r)
def keepOf (bs:List Id):Keep:=⟨[],bs.zipIdx,bs.length,[],[],[]⟩
def lentIds (h:Hp) (vs:List V):List Id:=(reach 200 h (refsL vs) []).filter fun b=>h.has b
theorem forceN_eq (n:Nat) (k:Nat→Prop):forceN n k=k n:=by cases n <;> rfl
theorem forceV_eq (v:V) (k:V→Prop):forceV v k=k v:=by cases v <;> rfl
theorem forceRow_eq : ∀ (l:List V) (k:List V→Prop),forceRow l k=k l
 | [],k=>rfl
 | v::r,k=>by rw [forceRow,forceV_eq,forceRow_eq]
theorem forceArg_eq (v:V) (k:V→Prop):forceArg v k=k v:=by
 cases v <;> first | exact forceRow_eq _ _ | (show forceRow _ _=_; rw [forceRow_eq,forceRow_eq]) | rfl
theorem forceArgs_eq : ∀ (l:List V) (k:List V→Prop),forceArgs l k=k l
 | [],k=>rfl
 | v::r,k=>by rw [forceArgs,forceArg_eq,forceArgs_eq]
theorem forceRows_eq : ∀ (l:List (List V)) (k:List (List V)→Prop),forceRows l k=k l
 | [],k=>rfl
 | v::r,k=>by rw [forceRows,forceRow_eq,forceRows_eq]
theorem forceO_eq (o:O) (k:O→Prop):forceO o k=k o:=by
 cases o with
 | rows s p es=>cases p with
  | true=>rfl
  | false=>exact forceRows_eq es _
 | mp es=>rfl
 | lp q=>rfl
 | it x n l=>rfl
theorem forceBs_eq : ∀ (l:List (Nat×O)) (k:List (Nat×O)→Prop),forceBs l k=k l
 | [],k=>rfl
 | (a,o)::r,k=>by rw [forceBs,forceN_eq,forceO_eq,forceBs_eq]
theorem forceH_eq (h:Hp) (k:Hp→Prop):forceH h k=k h:=by
 obtain ⟨bs,n,fs⟩:=h
 show forceBs bs _=_
 rw [forceBs_eq,forceN_eq]
theorem forceIds_eq : ∀ (l:List Id) (k:List Id→Prop),forceIds l k=k l
 | [],k=>rfl
 | .p n::r,k=>by rw [forceIds,forceN_eq,forceIds_eq]
 | .m B j::r,k=>by rw [forceIds,forceIds_eq]
theorem lent_eq (h:Hp) (vs:List V):lentOf h vs=keepOf (lentIds h vs):=rfl
def callsG (P:Program) (G:Nat→Option (List V)) (mode:FuncId→Nat) (post:FuncId→List V→Hp→Us→Hp) (rt:FuncId→List V→Us→V→(V→Prop)→Prop):Calling :=
 ⟨fun _=>none,mode,fun _=>false,KB P G,K0G P G,fun f args h k=>match mode f with
   | 3=>forceArgs args fun args=>forceIds (lentIds h args) fun ids=>guardB ((keepOf ids).ok&&bsOK h) (forceH (lentH h (keepOf ids)) fun h0=>KM P G f (trL (renOf (keepOf ids).blocks) args) h0 (post f args) fun v us=>guardB (mfit h (post f args h0 us) (keepOf ids).blocks) <| rt f args us v fun v =>
     forceH (mergeH h (keepOf ids) (post f args h0 us)) fun h' => forceV (v.tr (backT (keepOf ids).blocks (keepOf ids).nxt h.nxt)) fun v=>k v h')
   | _=>K P G f args h (fun _=>true) k,
  fun f args h b=>match mode f with | 3=>(lentOf h args).blocks.any fun p=>p.1.beq b | _=>true,true,0,G,fun _ _ _ _=>False,fun _=>true⟩
theorem callsG_ok {P:Program} {G:Nat→Option (List V)} {mode:FuncId→Nat} {post:FuncId→List V→Hp→Us→Hp} {rt:FuncId→List V→Us→V→(V→Prop)→Prop} (hrt : ∀ f args us v k,rt f args us v k → ∃ v', k v' ∧ ∀ {F:Nat→Prop} {w:World} {ν:Nu} {x:Value},rep F w ν v x→rep F w ν v' x):(callsG P G mode post rt).ok P:=by
 refine ⟨(fun _ _ h=>by cases h),fun _ _ _ _ _ h=>K_of_K0 h,fun _ _ _ _ _ h1 h2=>K_of_KB h1 h2,fun _ _ _ _ _ h=>K_of_K0t h,fun _ _ _ _ h hr=>h.mono hr,fun _ _ _ h=>h,?_,fun _ _ _ _ h=>h.elim⟩
 intro f args h R hc
 by_cases hm:mode f=3
 ·simp only [callsG,hm] at hc ⊢
  rw [forceArgs_eq,forceIds_eq,← lent_eq,guardB_iff,Bool.and_eq_true,forceH_eq] at hc
  obtain ⟨⟨hok,hbs⟩,hc⟩:=hc
  refine K_frame rfl hok hbs ?_
  intro ν F w xs g1 g2 g3
  refine (hc ν F w xs g1 g2 g3).mono fun e w' ⟨x,v,ν', F', h', z1,⟨es,z2,z3⟩,z4,z5,z6⟩=>?_
  have z3:=guardB_iff.1 z3
  obtain ⟨v', hk,hrv⟩:=hrt _ _ _ _ _ z3.2
  rw [forceH_eq,forceV_eq] at hk
  exact ⟨x,v', ν', F', h', z1,by rw [z2]; exact ⟨z3.1,hk⟩,z4,hrv z5,z6⟩
 ·simp only [callsG] at hc ⊢
  exact hc
noncomputable def cfgG (P:Program) (glob:Nat→Option (List V)) (mode:FuncId→Nat) (post:FuncId→List V→Hp→Us→Hp) (rt:FuncId→List V→Us→V→(V→Prop)→Prop) (enter:FuncId→Bool) (kps:FuncId→Nat→Option (List Tmp)):Cfg where
 C0:=callsG P glob mode post rt
 enter:=enter
 clean:=fun _=>true
 kps:=kps
theorem cfgG_ok {P:Program} {glob:Nat→Option (List V)} {mode:FuncId→Nat} {post:FuncId→List V→Hp→Us→Hp} {rt:FuncId→List V→Us→V→(V→Prop)→Prop} {enter:FuncId→Bool} {kps:FuncId→Nat→Option (List Tmp)} (hrt : ∀ f args us v k,rt f args us v k → ∃ v', k v' ∧ ∀ {F:Nat→Prop} {w:World} {ν:Nu} {x:Value},rep F w ν v x→rep F w ν v' x):(cfgG P glob mode post rt enter kps).ok P :=
 ⟨callsG_ok hrt,knowsY_none⟩
set_option linter.unusedSimpArgs false
noncomputable def WYKc (P:Program) (cfg:Cfg) (fuel:Nat) (f:FuncId) (fn:Func) (args:List V) (h:Hp) (R:V→Prop):Prop :=
 match fn.body with
 | some c=>guardB (Nat.ble args.length fn.ntmps&&Nat.ble args.length 1000) (WY P cfg fuel ⟨⟨h.nxt,[]⟩,h.nxt,none,fn.ntmps,f,0⟩ c (QendX P fn fun v _=>R v) ⟨start args,h⟩)
 | none=>False
theorem K_of_WYKc {P:Program} (hm:P.follows .mixedOrders=true) {cfg:Cfg} (hcf:cfg.ok P) (fuel:Nat) {f:FuncId} {fn:Func} (hf:P.funcs[f]? = some fn) {args:List V} {h:Hp} {R:V→Prop} (hw:WYKc P cfg fuel f fn args h R):K P cfg.glob f args h (fun b => !b.low h.nxt) fun v _=>R v:=by
 let cfg' : Cfg:={ cfg with enter:=fun _=>true,known:=fun _ _=>none,clean:=fun _=>true,spare:=fun _=>[] }
 have hc:(callY P cfg' (WY P cfg fuel) ⟨0,[]⟩ 0).c f args h (fun v _=>R v):=by
  show cY P cfg' (WY P cfg fuel) ⟨0,[]⟩ f args h (fun v _=>R v)
  unfold WYKc at hw
  split at hw
  ·rename_i c hb
   simp only [cY,cfg', cond_true,onSome_iff,Cfg.baseOf]
   exact ⟨fn,hf,c,hb,hw⟩
  ·exact hw.elim
 have:=(callY_ok (cfg:=cfg') ⟨hcf.c0,knowsY_none⟩ (WY_sound hm hcf fuel) ⟨0,[]⟩ 0).c f args h _ hc
 intro ν F w xs g1 g2 g3
 refine (this ν F w xs g1 g2 g3).mono fun e w' ⟨x,v,ν', F', h', z1,z2,z3,z4,z5,z6⟩=>?_
 refine ⟨x,v,ν', F', h', z1,z2,z3,z4,z5,fun b y hb ht=>z6 b y hb ?_⟩
 have ht:(!b.low h.nxt)=false:=ht
 show tY cfg' ⟨0,[]⟩ f args h b=false
 simp only [tY,cfg', cond_true,Cfg.baseOf,Id.lows,List.any_nil,Bool.or_false]
 exact ht
noncomputable def WYB (P:Program) (cfg:Cfg) (fuel:Nat) (f:FuncId) (fn:Func) (args:List V) (h:Hp) (R:V→Prop):Prop :=
 match fn.body with
 | some c=>guardB (Nat.ble args.length fn.ntmps&&Nat.ble args.length 1000) (WY P cfg fuel ⟨⟨h.nxt,[]⟩,h.nxt,none,fn.ntmps,f,0⟩ c (QendX P fn fun v h' => dataT h.nxt (gcH h.nxt v h') v R) ⟨start args,h⟩)
 | none=>False
theorem KB_of_WYB {P:Program} (hm:P.follows .mixedOrders=true) {cfg:Cfg} (hcf:cfg.ok P) (fuel:Nat) {f:FuncId} {fn:Func} (hf:P.funcs[f]? = some fn) {args:List V} {h:Hp} {R:V→Prop} (hfs:h.fs=[]) (hw:WYB P cfg fuel f fn args h R):KB P cfg.glob f args h R:=by
 let cfg' : Cfg:={ cfg with enter:=fun _=>true,known:=fun _ _=>none,clean:=fun _=>true,spare:=fun _=>[] }
 have hc:(callY P cfg' (WY P cfg fuel) ⟨0,[]⟩ 0).c f args h (fun v h' => dataT h.nxt h' v R):=by
  show cY P cfg' (WY P cfg fuel) ⟨0,[]⟩ f args h (fun v h' => dataT h.nxt h' v R)
  unfold WYB at hw
  split at hw
  ·rename_i c hb
   simp only [cY,cfg', cond_true,onSome_iff,Cfg.baseOf]
   exact ⟨fn,hf,c,hb,hw⟩
  ·exact hw.elim
 have:=(callY_ok (cfg:=cfg') ⟨hcf.c0,knowsY_none⟩ (WY_sound hm hcf fuel) ⟨0,[]⟩ 0).c f args h _ hc
 intro ν F w xs g1 g2 g3
 refine (this ν F w xs g1 g2 g3).mono fun e w' ⟨x,v,ν', F', h', z1,z2,z3,z4,z5,z6⟩=>?_
 obtain ⟨d,d1,d2⟩:=dataT_D z2
 refine ⟨x,v,d,ν', F', h', z1,d2,d1,z3,z4,z5,fun b y hb=>z6 b y hb ?_⟩
 show tY cfg' ⟨0,[]⟩ f args h b=false
 simp only [tY,cfg', cond_true,Cfg.baseOf,Id.lows,List.any_nil,Bool.or_false]
 have hlt:=ν.lt _ _ hb
 cases b with
 | p a =>
  have:a<h.nxt:=by have h2:a<ν.nxt:=hlt; rw [g1.nxt] at h2; exact h2
  show (!Nat.blt a h.nxt)=false
  rw [show Nat.blt a h.nxt=true from Nat.ble_eq_true_of_le this]; rfl
 | m B j =>
  have h2:j<ν.cnt B:=hlt
  rw [g1.cnt B,hfs] at h2
  exact absurd h2 (Nat.not_lt_zero _)
section
variable {ν:Nu} {F:Nat→Prop} {h:Hp} {w w' : World}
end
end Go.Proofs.YtkkgicjioajimaaDoor.Clean
namespace Go.Proofs.YtkkgicjioajimaaDoor
open Go Go.Proofs.YtkkgicjioajimaaDoor.Clean
set_option linter.unusedVariables false
set_option maxRecDepth 100000
def tabC:List V:=[V.raw (.int .u8 0),V.raw (.int .u8 1),V.raw (.int .u8 28),V.raw (.int .u8 2),V.raw (.int .u8 29),V.raw (.int .u8 14),V.raw (.int .u8 24),V.raw (.int .u8 3),V.raw (.int .u8 30),V.raw (.int .u8 22),V.raw (.int .u8 20),V.raw (.int .u8 15),V.raw (.int .u8 25),V.raw (.int .u8 17),V.raw (.int .u8 4),V.raw (.int .u8 8),V.raw (.int .u8 31),V.raw (.int .u8 27),V.raw (.int .u8 13),V.raw (.int .u8 23),V.raw (.int .u8 21),V.raw (.int .u8 19),V.raw (.int .u8 16),V.raw (.int .u8 7),V.raw (.int .u8 26),V.raw (.int .u8 12),V.raw (.int .u8 18),V.raw (.int .u8 6),V.raw (.int .u8 11),V.raw (.int .u8 5),V.raw (.int .u8 10),V.raw (.int .u8 9)]
def glX:Nat→Option (List V):=fun g=>match g with | 0=>some tabC | _=>none
theorem hmX:Tryd.prog.follows .mixedOrders=true:=by kernel_rfl
def u8v (n:Int):V := .raw (.int .u8 n)
def nb (l:List Nat):List (List V):=l.map fun (n:Nat)=>[u8v (n:Int)]
abbrev Pt:=Int×Int×Int×Nat
def ptr4 (x:Pt):List V:=[iv x.1,iv x.2.1,iv x.2.2.1,u8v (x.2.2.2:Int)]
def ptl (l:List Pt):List (List V):=l.map ptr4
def kpK:FuncId→Nat→Option (List Tmp):=slotsOf [(49,0,[3,7,8,9]),(16,0,[40,41,42]),(18,0,[0,9,10,11]),(68,0,[1,2,3,11,12]),(68,2,[1,2,3,4,11,12,16,17]),(33,0,[5,13,14,15]),(39,0,[1,3,4]),(40,0,[1,3]),(52,0,[0,3]),(34,0,[0,4,5]),(34,2,[0,4,5,6,7]),(34,4,[0,4,5,6,7,8])]
noncomputable def cfK:Cfg:=cfgM Tryd.prog glX (fun _=>0) (fun _=>none) (inN [48,71,50,64,78,79,98,117,65,118]) kpK
noncomputable def sh32 (u:Nat) (c:List Nat) (n:Int) (k:Nat):St:=⟨mkT [(3,iv n),(7,V.lst u (nb c)),(8,iv ((nb c).length:Int)),(9,iv (k:Int))],⟨[],0,[]⟩⟩
noncomputable def sh11 (u:Nat) (c:List Nat) (k:Nat):St:=⟨mkT [(40,V.lst u (nb c)),(41,iv ((nb c).length:Int)),(42,iv (k:Int))],⟨[],0,[]⟩⟩
noncomputable def sh13 (l:List Pt) (k:Nat):St:=⟨mkT [(0,V.lst 4 (ptl l)),(9,V.lst 4 (ptl l)),(10,iv ((ptl l).length:Int)),(11,iv (k:Int))],⟨[],0,[]⟩⟩
noncomputable def sh25 (w d h:Int) (u:Nat) (c:List Nat) (n:Int) (k:Nat):St:=⟨mkT [(1,V.ptr (Id.p 0) 0 0),(3,iv n),(4,iv (k:Int))],⟨[(0,O.rows 4 false [[iv w,iv d,iv h,V.lst u (nb c)]])],1,[]⟩⟩
set_option linter.unusedSimpArgs false
set_option maxRecDepth 10000
theorem hcK:cfK.ok Tryd.prog:=cfgM_ok
theorem ifB_t {b:Bool} {p q:Prop} (hb:b=true) (h:p):ifB b p q:=by subst hb; exact h
theorem ifB_f {b:Bool} {p q:Prop} (hb:b=false) (h:q):ifB b p q:=by subst hb; exact h
theorem wr1i {i n:Nat} (h:i<n) (hn:(n:Int)≤9223372036854775807):IntKind.i64.wrap ((i:Int)+1)=((i+1:Nat):Int):=by rw [wr (by omega) (by omega)]; simp
theorem onIntK_u8 {n:Int} {k:Int→Prop} (h:k n):onIntK .u8 (u8v n) k:=h
theorem nb_length (l:List Nat):(nb l).length=l.length:=by simp [nb]
theorem ptl_length (l:List Pt):(ptl l).length=l.length:=by simp [ptl]
theorem nbel {l:List Nat} {i:Nat} {x:Nat} {k:Int→Prop} (h:l[i]? = some x) (hk:k x):onSome (nb l)[i]? fun row=>onSome row[0]? fun v=>onIntK IntKind.u8 v fun n=>k n:=onSome_mk (by simp [nb,h]:(nb l)[i]? = some [u8v (x:Int)]) hk
theorem ptel {l:List Pt} {i:Nat} {x:Pt} {k:Int→Int→Int→Int→Prop} (h:l[i]? = some x) (hk:k x.1 x.2.1 x.2.2.1 x.2.2.2):onSome (ptl l)[i]? fun row=>onCons (List.drop 0 row) fun u r=>onIntK IntKind.i64 u fun a=>onCons r fun u r=>onIntK IntKind.i64 u fun b=>onCons r fun u r=>onIntK IntKind.i64 u fun c=>onCons r fun u r=>onIntK IntKind.u8 u fun d=>k a b c d :=
 onSome_mk (by simp [ptl,h]:(ptl l)[i]? = some (ptr4 x)) (onCons_cons (onIntK_iv (onCons_cons (onIntK_iv (onCons_cons (onIntK_iv (onCons_cons (onIntK_u8 hk))))))))
def fullN (c:List Nat):Nat:=(c.filter fun x=>x != 0).length
theorem fullN_le (c:List Nat):fullN c≤c.length:=List.length_filter_le _ _
theorem fullN_snoc {c:List Nat} {k x:Nat} (h:c[k]? = some x):fullN (c.take (k+1))=fullN (c.take k)+if x=0 then 0 else 1:=by
 rw [List.take_add_one,h]
 unfold fullN
 rw [List.filter_append,List.length_append]
 by_cases e:x=0 <;> simp [e]
theorem full32 {w d h:Int} {u:Nat} {c:List Nat} {R:V→Prop} (hu:u=1∨c=[]) (hc:c.length≤1000000) (hR:R (iv (fullN c:Int))):K0G Tryd.prog glX 49 [.agg [iv w,iv d,iv h,.lst u (nb c)]] R:=by
 refine K0_of_WY0 hmX hcK 3000 Tryd.func49 (see (p:=La 0 [(3:Tmp),(7:Tmp),(8:Tmp),(9:Tmp)] (WY Tryd.prog cfK 2994 (Env.mk (Bs.mk 0 []) 0 none 19 49 0) (cdAt [1,1,0,1,0,0] (bodyOf Tryd.f49))) (Qblk 0 (Qthen (WY Tryd.prog cfK 2997 (Env.mk (Bs.mk 0 []) 0 none 19 49 0) (cdAt [1,1,1] (bodyOf Tryd.f49)) (QendX Tryd.prog Tryd.f49 fun v h=>R (frzW h v))) (QendX Tryd.prog Tryd.f49 fun v h=>R (frzW h v)))) (St.mk (mkT [(3,iv (0:Int)),(7,V.lst u (nb c)),(8,iv (↑(nb c).length:Int)),(9,iv (0:Int))]) (Hp.mk [] 0 []))) (by kernel_rfl) ?_)
 refine La.of (σ:=Int×Nat) (fun x=>sh32 u c x.1 x.2) (fun x=>x.2≤c.length∧x.1=fullN (c.take x.2)) (fun x=>c.length - x.2) (0,0) (by kernel_rfl) ⟨by simp,by simp [fullN]⟩ ?_
 rintro ⟨n,k⟩ ⟨g1,g2⟩ J hJ
 simp only at g1 g2
 refine see (p:=ifB (decide ((↑k:Int)<(↑(nb c).length:Int))) (need (u=1) (onSome (nb c)[k]? fun row=>onSome row[0]? fun v=>onIntK IntKind.u8 v fun n_1=>ifB (n_1 != (0:Int)) (J (St.mk (mkT [(3,iv (IntKind.i64.wrap (n+(1:Int)))),(7,V.lst u (nb c)),(8,iv (↑(nb c).length:Int)),(9,iv (IntKind.i64.wrap ((↑k:Int)+(1:Int))))]) (Hp.mk [] 0 []))) (J (St.mk (mkT [(3,iv n),(7,V.lst u (nb c)),(8,iv (↑(nb c).length:Int)),(9,iv (IntKind.i64.wrap ((↑k:Int)+(1:Int))))]) (Hp.mk [] 0 []))))) (R (iv n))) (by kernel_rfl) ?_
 refine ifB_mk (fun hb=>?_) (fun hb=>?_) <;> rw [nb_length] at hb
 ·have hlt:k<c.length:=by have:=of_decide_eq_true hb; omega
  have e1:c[k]? = some (c.getD k 0):=by simp [List.getD,hlt]
  have hu1:u=1:=hu.resolve_right (by rintro rfl; simp at hlt)
  have hs:=fullN_snoc e1
  have hl:=fullN_le (c.take k)
  rw [List.length_take] at hl
  refine need_mk ⟨hu1,nbel e1 ?_⟩
  rw [wr1i hlt (by omega)]
  refine ifB_mk (fun hb=>?_) (fun hb=>?_)
  ·rw [wr (by omega) (by omega)]
   refine hJ (n+1,k+1) ⟨hlt,?_⟩ (by simp only; omega)
   have:c.getD k 0≠0:=by rintro e; rw [e] at hb; simp at hb
   rw [if_neg this] at hs
   simp only
   rw [hs,g2]
   rfl
  ·refine hJ (n,k+1) ⟨hlt,?_⟩ (by simp only; omega)
   have:c.getD k 0=0:=by
    have:((c.getD k 0:Nat):Int)=0:=by simpa using hb
    omega
   rw [if_pos this] at hs
   simp only
   rw [hs,g2]
   rfl
 ·have hk:k=c.length:=by have:=of_decide_eq_false hb; omega
  rw [hk,List.take_length] at g2
  rw [g2]; exact hR
def ShOK (w d h:Int) (c:List Nat):Prop:=(1≤w∧w≤8)∧(1≤d∧d≤8)∧(1≤h∧h≤4)∧(c.length:Int)=w * d * h∧(1≤fullN c∧fullN c≤16) ∧ ∀ x∈c,x≤15
theorem sizes {w d h:Int} (hw:1≤w∧w≤8) (hd:1≤d∧d≤8) (hh:1≤h∧h≤4):(1≤w * d∧w * d≤64)∧1≤w * d * h∧w * d * h≤256:=by
 have a1:1 * 1≤w * d:=Int.mul_le_mul hw.1 hd.1 (by omega) (by omega)
 have a2:w * d≤8 * 8:=Int.mul_le_mul hw.2 hd.2 (by omega) (by omega)
 have b1:1 * 1≤w * d * h:=Int.mul_le_mul (by omega) hh.1 (by omega) (by omega)
 have b2:w * d * h≤64 * 4:=Int.mul_le_mul (by omega) hh.2 (by omega) (by omega)
 omega
theorem check11 {w d h:Int} {u:Nat} {c:List Nat} {R:V→Prop} (hu:u=1∨c=[]) (h0:ShOK w d h c→R (iv 0)) (h1 : ¬ ShOK w d h c→R (iv 70)):K0G Tryd.prog glX 16 [.agg [iv w,iv d,iv h,.lst u (nb c)]] R:=by
 refine K0_of_WY0 hmX hcK 3000 Tryd.func16 (see (p:=ifB (decide ((1:Int)≤w)) (ifB (!decide (w≤(8:Int))) (R (iv (70:Int))) (ifB (decide ((1:Int)≤d)) (ifB (!decide (d≤(8:Int))) (R (iv (70:Int))) (ifB (decide ((1:Int)≤h)) (ifB (!decide (h≤(4:Int))) (R (iv (70:Int))) (ifB ((↑(nb c).length:Int) != IntKind.i64.wrap (IntKind.i64.wrap (w * d) * h)) (R (iv (70:Int))) (K0G Tryd.prog glX 49 [V.agg [iv w,iv d,iv h,V.lst u (nb c)]] fun v=>onIntK IntKind.i64 v fun n=>ifB (decide ((1:Int)≤n)) (ifB (!decide (n≤(16:Int))) (R (iv (70:Int))) (La 0 [(40:Tmp),(41:Tmp),(42:Tmp)] (WY Tryd.prog cfK 2993 (Env.mk (Bs.mk 0 []) 0 none 49 16 0) (cdAt [1,1,1,0,1,0,0] (bodyOf Tryd.f16))) (Qblk 0 (Qthen (WY Tryd.prog cfK 2996 (Env.mk (Bs.mk 0 []) 0 none 49 16 0) (cdAt [1,1,1,1] (bodyOf Tryd.f16)) (QendX Tryd.prog Tryd.f16 fun v h=>R (frzW h v))) (QendX Tryd.prog Tryd.f16 fun v h=>R (frzW h v)))) (St.mk (mkT [(40,V.lst u (nb c)),(41,iv (↑(nb c).length:Int)),(42,iv (0:Int))]) (Hp.mk [] 0 [])))) (R (iv (70:Int)))))) (R (iv (70:Int))))) (R (iv (70:Int))))) (R (iv (70:Int)))) (by kernel_rfl) ?_)
 refine ifB_mk (fun a1=>ifB_mk (fun a2=>h1 fun q=>?_) (fun a2=>ifB_mk (fun a3=>ifB_mk (fun a4=>h1 fun q=>?_) (fun a4=>ifB_mk (fun a5=>ifB_mk (fun a6=>h1 fun q=>?_) (fun a6=>?_)) (fun a5=>h1 fun q=>?_))) (fun a3=>h1 fun q=>?_))) (fun a1=>h1 fun q=>?_)
 ·simp at a2; have:=q.1; omega
 ·simp at a4; have:=q.2.1; omega
 ·simp at a6; have:=q.2.2.1; omega
 rotate_left
 ·simp at a5; have:=q.2.2.1; omega
 ·simp at a3; have:=q.2.1; omega
 ·simp at a1; have:=q.1; omega
 simp at a1 a2 a3 a4 a5 a6
 have sz:=sizes ⟨a1,a2⟩ ⟨a3,a4⟩ ⟨a5,a6⟩
 rw [wr (n:=w * d) (by omega) (by omega),wr (by omega) (by omega)]
 refine ifB_mk (fun b=>h1 fun q=>?_) (fun b=>?_) <;> rw [nb_length] at b
 ·simp at b; exact b q.2.2.2.1
 have b:(c.length:Int)=w * d * h:=by simpa using b
 refine full32 hu (by omega) (onIntK_iv ?_)
 refine ifB_mk (fun c1=>ifB_mk (fun c2=>h1 fun q=>?_) (fun c2=>?_)) (fun c1=>h1 fun q=>?_)
 ·simp at c2; have:=q.2.2.2.2.1; omega
 rotate_left
 ·simp at c1; have:=q.2.2.2.2.1; omega
 simp at c1 c2
 refine La.of (σ:=Nat) (fun k=>sh11 u c k) (fun k=>k≤c.length ∧ ∀ x∈c.take k,x≤15) (fun k=>c.length - k) 0 (by kernel_rfl) (by simp) ?_
 rintro k ⟨g1,g2⟩ J hJ
 refine see (p:=ifB (decide ((↑k:Int)<(↑(nb c).length:Int))) (need (u=1) (onSome (nb c)[k]? fun row=>onSome row[0]? fun v=>onIntK IntKind.u8 v fun n=>ifB (decide (n > (15:Int))) (R (iv (70:Int))) (J (St.mk (mkT [(40,V.lst u (nb c)),(41,iv (↑(nb c).length:Int)),(42,iv (IntKind.i64.wrap ((↑k:Int)+(1:Int))))]) (Hp.mk [] 0 []))))) (R (iv (0:Int)))) (by kernel_rfl) ?_
 refine ifB_mk (fun hb=>?_) (fun hb=>?_) <;> rw [nb_length] at hb
 ·have hlt:k<c.length:=by have:=of_decide_eq_true hb; omega
  have e1:c[k]? = some (c.getD k 0):=by simp [List.getD,hlt]
  have hu1:u=1:=hu.resolve_right (by rintro rfl; simp at hlt)
  refine need_mk ⟨hu1,nbel e1 ?_⟩
  refine ifB_mk (fun hb=>h1 fun q=>?_) (fun hb=>?_)
  ·have:=q.2.2.2.2.2 _ (List.mem_of_getElem? e1)
   have hb:=of_decide_eq_true hb
   omega
  ·rw [wr1i hlt (by omega)]
   refine hJ (k+1) ⟨hlt,fun x hx=>?_⟩ (by omega)
   rw [List.take_add_one,e1] at hx
   rcases List.mem_append.1 hx with q | q
   ·exact g2 x q
   ·have hb:=of_decide_eq_false hb
    have q:x=c.getD k 0:=by simpa using q
    omega
 ·have hk:k=c.length:=by have:=of_decide_eq_false hb; omega
  rw [hk,List.take_length] at g2
  exact h0 ⟨⟨a1,a2⟩,⟨a3,a4⟩,⟨a5,a6⟩,b,⟨by omega,by omega⟩,g2⟩
theorem ptl_get {l:List Pt} {i:Nat} {x:Pt} (h:l[i]? = some x):(ptl l)[i]? = some (ptr4 x):=by simp [ptl,h]
theorem getI {α:Type} {l:List α} {k:Nat} (h:k<l.length) : ∃ x,l[k]? = some x:=⟨l[k],by simp [h]⟩
theorem wr_pred {k:Nat} (h:0<k) (hk:k≤1000000):IntKind.i64.wrap ((k:Int) - 1)=((k - 1:Nat):Int):=by rw [wr (by omega) (by omega)]; omega
def POK (x:Pt):Prop:=(1≤x.1∧x.1≤x.2.1)∧(1≤x.2.1∧x.2.1≤8)∧(0≤x.2.2.1∧x.2.2.1≤99)∧x.2.2.2≤15
def FolP (x y:Pt):Prop:=x.1<y.1∨x.1=y.1∧(x.2.1<y.2.1∨x.2.1=y.2.1∧0<x.2.2.2∧x.2.2.2<y.2.2.2)
def PtOK (l:List Pt):Prop:=(1≤l.length∧l.length≤8)∧(∀ (i:Nat) (x:Pt),l[i]? = some x→POK x) ∧ ∀ (i:Nat) (x y:Pt),l[i]? = some x→l[i+1]? = some y→FolP x y
theorem follows35 {x y:Pt} {R:V→Prop} (ht:FolP x y→R (bv true)) (hf : ¬ FolP x y→R (bv false)):K0G Tryd.prog glX 51 [.agg (ptr4 x),.agg (ptr4 y)] R:=by
 refine K0_of_WY0 hmX hcK 3000 Tryd.func51 (see (p:=ifB (x.1 != x.1) (ifB (y.1 != y.1) (ifB (x.2.1 != x.2.1) (ifB (y.2.1 != y.2.1) (ifB (decide ((0:Int)<(↑x.2.2.2:Int))) (R (bv (decide ((↑x.2.2.2:Int)<(↑y.2.2.2:Int))))) (R (bv false))) (R (bv true))) (ifB (y.2.1 != y.2.1) (R (bv false)) (ifB (decide (x.2.1<y.2.1)) (R (bv true)) (ifB (decide (x.2.1 > y.2.1)) (R (bv false)) (ifB (decide ((0:Int)<(↑x.2.2.2:Int))) (R (bv (decide ((↑x.2.2.2:Int)<(↑y.2.2.2:Int))))) (R (bv false))))))) (R (bv true))) (ifB (y.1 != y.1) (R (bv false)) (ifB (decide (x.1<y.1)) (R (bv true)) (ifB (decide (x.1 > y.1)) (R (bv false)) (ifB (x.2.1 != x.2.1) (ifB (y.2.1 != y.2.1) (ifB (decide ((0:Int)<(↑x.2.2.2:Int))) (R (bv (decide ((↑x.2.2.2:Int)<(↑y.2.2.2:Int))))) (R (bv false))) (R (bv true))) (ifB (y.2.1 != y.2.1) (R (bv false)) (ifB (decide (x.2.1<y.2.1)) (R (bv true)) (ifB (decide (x.2.1 > y.2.1)) (R (bv false)) (ifB (decide ((0:Int)<(↑x.2.2.2:Int))) (R (bv (decide ((↑x.2.2.2:Int)<(↑y.2.2.2:Int))))) (R (bv false))))))))))) (by kernel_rfl) ?_)
 unfold FolP at ht hf
 refine ifB_f (by simp) (ifB_f (by simp) (ifB_mk (fun a=>ht (.inl (of_decide_eq_true a))) (fun a=>?_)))
 have a:=of_decide_eq_false a
 refine ifB_mk (fun b=>hf (by have:=of_decide_eq_true b; omega)) (fun b=>?_)
 have b:=of_decide_eq_false b
 refine ifB_f (by simp) (ifB_f (by simp) (ifB_mk (fun c=>ht (by have:=of_decide_eq_true c; omega)) (fun c=>?_)))
 have c:=of_decide_eq_false c
 refine ifB_mk (fun d=>hf (by have:=of_decide_eq_true d; omega)) (fun d=>?_)
 have d:=of_decide_eq_false d
 refine ifB_mk (fun e=>?_) (fun e=>hf (by have:=of_decide_eq_false e; omega))
 have e:=of_decide_eq_true e
 by_cases q:(x.2.2.2:Int)<(y.2.2.2:Int)
 ·rw [decide_eq_true q]; exact ht (by omega)
 ·rw [decide_eq_false q]; exact hf (by omega)
def Pto (l:List Pt) (k:Nat):Prop:=(∀ (i:Nat) (x:Pt),i<k→l[i]? = some x→POK x) ∧ ∀ (i:Nat) (x y:Pt),i+1<k→l[i]? = some x→l[i+1]? = some y→FolP x y
theorem pto_step {l:List Pt} {k:Nat} {x:Pt} (h:Pto l k) (hx:l[k]? = some x) (h1:POK x) (h2 : ∀ y,0<k→l[k - 1]? = some y→FolP y x):Pto l (k+1):=by
 refine ⟨fun i z hi hz=>?_,fun i z w hi hz hw=>?_⟩
 ·rcases Nat.lt_succ_iff_lt_or_eq.1 hi with q | q
  ·exact h.1 i z q hz
  ·subst q; rw [hx] at hz; cases hz; exact h1
 ·rcases Nat.lt_succ_iff_lt_or_eq.1 hi with q | q
  ·exact h.2 i z w q hz hw
  ·subst q; rw [hx] at hw; cases hw; exact h2 z (by omega) hz
theorem check13 {l:List Pt} {R:V→Prop} (h0:PtOK l→R (iv 0)) (h1 : ¬ PtOK l→R (iv 71)):K0G Tryd.prog glX 18 [.lst 4 (ptl l)] R:=by
 refine K0_of_WY0 hmX hcK 3000 Tryd.func18 (see (p:=ifB (decide ((1:Int)≤(↑(ptl l).length:Int))) (ifB (!decide ((↑(ptl l).length:Int)≤(8:Int))) (R (iv (71:Int))) (La 0 [(0:Tmp),(9:Tmp),(10:Tmp),(11:Tmp)] (WY Tryd.prog cfK 2994 (Env.mk (Bs.mk 0 []) 0 none 34 18 0) (cdAt [1,1,0,1,0,0] (bodyOf Tryd.f18))) (Qblk 0 (Qthen (WY Tryd.prog cfK 2997 (Env.mk (Bs.mk 0 []) 0 none 34 18 0) (cdAt [1,1,1] (bodyOf Tryd.f18)) (QendX Tryd.prog Tryd.f18 fun v h=>R (frzW h v))) (QendX Tryd.prog Tryd.f18 fun v h=>R (frzW h v)))) (St.mk (mkT [(0,V.lst 4 (ptl l)),(9,V.lst 4 (ptl l)),(10,iv (↑(ptl l).length:Int)),(11,iv (0:Int))]) (Hp.mk [] 0 [])))) (R (iv (71:Int)))) (by kernel_rfl) ?_)
 refine ifB_mk (fun a=>ifB_mk (fun b=>h1 fun q=>?_) (fun b=>?_)) (fun a=>h1 fun q=>?_)
 ·rw [ptl_length] at b; simp at b; have:=q.1; omega
 rotate_left
 ·rw [ptl_length] at a; have a:=of_decide_eq_false a; have:=q.1.1; omega
 have a:=of_decide_eq_true a
 have b:((ptl l).length:Int)≤8:=by simpa using b
 rw [ptl_length] at a b
 refine La.of (σ:=Nat) (fun k=>sh13 l k) (fun k=>k≤l.length∧Pto l k) (fun k=>l.length - k) 0 (by kernel_rfl) ⟨by simp,fun i x hi=>by omega,fun i x y hi=>by omega⟩ ?_
 rintro k ⟨g1,g2⟩ J hJ
 refine see (p:=ifB (decide ((↑k:Int)<(↑(ptl l).length:Int))) (onSome (ptl l)[k]? fun row=>onCons (List.drop 0 row) fun u r=>onIntK IntKind.i64 u fun n=>onCons r fun u r=>onIntK IntKind.i64 u fun n_1=>onCons r fun u r=>onIntK IntKind.i64 u fun n_2=>onCons r fun u r=>onIntK IntKind.u8 u fun n_3=>ifB (decide ((1:Int)≤n_1)) (ifB (decide (n_1≤(8:Int))) (ifB (decide ((1:Int)≤n)) (ifB (decide (n≤n_1)) (ifB (decide ((0:Int)≤n_2)) (ifB (decide (n_2≤(99:Int))) (ifB (!decide (n_3≤(15:Int))) (R (iv (71:Int))) (ifB (decide ((↑k:Int) > (0:Int))) (onNat (IntKind.i64.wrap ((↑k:Int) - (1:Int))) fun m=>onSome (ptl l)[m]? fun row=>onCons (List.drop 0 row) fun u r=>onIntK IntKind.i64 u fun n_4=>onCons r fun u r=>onIntK IntKind.i64 u fun n_5=>onCons r fun u r=>onIntK IntKind.i64 u fun n_6=>onCons r fun u r=>onIntK IntKind.u8 u fun n_7=>K0G Tryd.prog glX 51 [V.agg [iv n_4,iv n_5,iv n_6,V.raw (Value.int IntKind.u8 n_7)],V.agg [iv n,iv n_1,iv n_2,V.raw (Value.int IntKind.u8 n_3)]] fun v=>onBool v fun b=>ifB (!b) (R (iv (71:Int))) (J (St.mk (mkT [(0,V.lst 4 (ptl l)),(9,V.lst 4 (ptl l)),(10,iv (↑(ptl l).length:Int)),(11,iv (IntKind.i64.wrap ((↑k:Int)+(1:Int))))]) (Hp.mk [] 0 [])))) (J (St.mk (mkT [(0,V.lst 4 (ptl l)),(9,V.lst 4 (ptl l)),(10,iv (↑(ptl l).length:Int)),(11,iv (IntKind.i64.wrap ((↑k:Int)+(1:Int))))]) (Hp.mk [] 0 []))))) (R (iv (71:Int)))) (R (iv (71:Int)))) (R (iv (71:Int)))) (R (iv (71:Int)))) (R (iv (71:Int)))) (R (iv (71:Int)))) (R (iv (0:Int)))) (by kernel_rfl) ?_
 refine ifB_mk (fun hb=>?_) (fun hb=>?_) <;> rw [ptl_length] at hb
 ·have hlt:k<l.length:=by have:=of_decide_eq_true hb; omega
  obtain ⟨x,hx⟩:=getI hlt
  refine onSome_mk (ptl_get hx) (onCons_cons (onIntK_iv (onCons_cons (onIntK_iv (onCons_cons (onIntK_iv (onCons_cons (onIntK_u8 ?_))))))))
  have bad : ¬ POK x→R (iv 71):=fun g=>h1 fun q=>g (q.2.1 k x hx)
  unfold POK at bad
  refine ifB_mk (fun c1=>?_) (fun c1=>bad (by have:=of_decide_eq_false c1; omega))
  refine ifB_mk (fun c2=>?_) (fun c2=>bad (by have:=of_decide_eq_false c2; omega))
  refine ifB_mk (fun c3=>?_) (fun c3=>bad (by have:=of_decide_eq_false c3; omega))
  refine ifB_mk (fun c4=>?_) (fun c4=>bad (by have:=of_decide_eq_false c4; omega))
  refine ifB_mk (fun c5=>?_) (fun c5=>bad (by have:=of_decide_eq_false c5; omega))
  refine ifB_mk (fun c6=>?_) (fun c6=>bad (by have:=of_decide_eq_false c6; omega))
  refine ifB_mk (fun c7=>bad (by have:=(by simpa using c7 : ¬ (x.2.2.2:Int)≤15); omega)) (fun c7=>?_)
  have c7:(x.2.2.2:Int)≤15:=by simpa using c7
  have c1:=of_decide_eq_true c1
  have c2:=of_decide_eq_true c2
  have c3:=of_decide_eq_true c3
  have c4:=of_decide_eq_true c4
  have c5:=of_decide_eq_true c5
  have c6:=of_decide_eq_true c6
  have hp:POK x:=⟨⟨c3,c4⟩,⟨c1,c2⟩,⟨c5,c6⟩,by omega⟩
  rw [wr1i hlt (by omega)]
  refine ifB_mk (fun d=>?_) (fun d=>hJ (k+1) ⟨hlt,pto_step g2 hx hp (fun y hy=>by have:=of_decide_eq_false d; omega)⟩ (by omega))
  have d:0<k:=by have:=of_decide_eq_true d; omega
  rw [wr_pred d (by omega)]
  obtain ⟨y,hy⟩:=getI (l:=l) (k:=k - 1) (by omega)
  refine onNat_mk rfl (onSome_mk (ptl_get hy) (onCons_cons (onIntK_iv (onCons_cons (onIntK_iv (onCons_cons (onIntK_iv (onCons_cons (onIntK_u8 ?_)))))))))
  refine follows35 (x:=y) (y:=x) (fun f=>onBool_bv (ifB_f rfl ?_)) (fun f=>onBool_bv (ifB_t rfl ?_))
  ·exact hJ (k+1) ⟨hlt,pto_step g2 hx hp (fun z _ hz=>by rw [hy] at hz; cases hz; exact f)⟩ (by omega)
  ·exact h1 fun q=>f (q.2.2 (k - 1) y x hy (by rw [show k - 1+1=k from by omega]; exact hx))
 ·have hk:k=l.length:=by have:=of_decide_eq_false hb; omega
  subst hk
  refine h0 ⟨⟨by omega,by omega⟩,fun i x hx=>g2.1 i x (List.getElem?_eq_some_iff.1 hx).1 hx,fun i x y hx hy=>g2.2 i x y (List.getElem?_eq_some_iff.1 hy).1 hx hy⟩
end Go.Proofs.YtkkgicjioajimaaDoor
namespace Go.Proofs.YtkkgicjioajimaaDoor.Clean
set_option linter.unusedVariables false
def rawD:TypeDesc→Bool
 | .int _ | .bool | .string=>true
 | _=>false
def openD (ds:List TypeDesc) (v:V) (k:V→Prop):Prop:=match ds with
 | [d]=>guardB (rawD d) (typed d true v k)
 | ds=>guardB (ds.all rawD) (onTup v fun vs=>onTypedE true ds vs fun cs=>k (.tup cs))
theorem typed_raw {d:TypeDesc} {p:Bool} {v:V} {k:V→Prop} (hd:rawD d=true) (h:typed d p v k) : ∃ u,v = .raw u∧k (.raw u):=by
 unfold rawD at hd
 split at hd
 ·rename_i kk
  have h:onIntK kk v fun n=>k (.raw (.int kk n)):=h
  unfold onIntK at h
  split at h
  ·rename_i kk' n
   rw [guardB_iff] at h
   have e:=h.1
   simp at e
   subst e
   exact ⟨_,rfl,h.2⟩
  ·exact h.elim
 ·have h:onBool v fun b=>k (.raw (.bool b)):=h
  unfold onBool at h
  split at h
  ·exact ⟨_,rfl,h⟩
  ·exact h.elim
 ·have h:onStr v fun b=>k (.raw (.string b)):=h
  unfold onStr at h
  split at h
  ·exact ⟨_,rfl,h⟩
  ·exact h.elim
 ·cases hd
theorem onTypedE_raw {p:Bool} : ∀ {ds:List TypeDesc} {l:List V} {k:List V→Prop},ds.all rawD=true→onTypedE p ds l k → ∃ us:List Value,l=us.map .raw∧k (us.map .raw)
 | [],l,k,_,h=>by
  cases l with
  | nil=>exact ⟨[],rfl,h⟩
  | cons v r=>exact h.elim
 | d::ds,l,k,hd,h=>by
  rw [List.all_cons,Bool.and_eq_true] at hd
  cases l with
  | nil=>exact h.elim
  | cons v r =>
   have h:typed d p v fun v=>onTypedE p ds r fun cs=>k (v::cs):=h
   obtain ⟨u,rfl,h2⟩:=typed_raw hd.1 h
   obtain ⟨us,rfl,h3⟩:=onTypedE_raw hd.2 h2
   exact ⟨u::us,rfl,h3⟩
theorem riL_raws {F F' : Nat→Prop} {w w' : World} {ν:Nu} : ∀ {us:List Value} {xs:List Value},riL F w (us.map .raw) xs→repL F' w' ν (us.map .raw) xs
 | [],xs,h=>by simpa only [List.map_nil,riL,repL] using h
 | u::us,xs,h=>by
  simp only [List.map_cons,riL,ri] at h
  obtain ⟨x,ys,rfl,rfl,h3⟩:=h
  simp only [List.map_cons,repL,rep]
  exact ⟨_,_,rfl,rfl,riL_raws h3⟩
theorem openD_rep {ds:List TypeDesc} {v:V} {k:V→Prop} (h:openD ds v k) {F:Nat→Prop} {w:World} {x:Value} (hr:ri F w v x) : ∃ v', k v' ∧ ∀ (F' : Nat→Prop) (w' : World) (ν:Nu),rep F' w' ν v' x:=by
 unfold openD at h
 split at h
 ·rename_i d
  rw [guardB_iff] at h
  obtain ⟨u,rfl,h2⟩:=typed_raw h.1 h.2
  exact ⟨_,h2,fun F' w' ν=>by simp only [ri] at hr; simp only [rep]; exact hr⟩
 ·rw [guardB_iff] at h
  obtain ⟨h1,h2⟩:=h
  cases v <;> simp only [onTup] at h2 <;> first | exact h2.elim | skip
  rename_i vs
  obtain ⟨us,rfl,h3⟩:=onTypedE_raw h1 h2
  refine ⟨_,h3,fun F' w' ν=>?_⟩
  simp only [ri] at hr
  obtain ⟨arr,h4,h5⟩:=hr
  simp only [rep]
  exact ⟨arr,h4,riL_raws h5⟩
theorem frzStep_ok {F F' : Nat→Prop} {w:World} {ν:Nu} {h:Hp} (hh:HeapOK ν F h w) (bs:Id→Bool) (hF : ∀ r,F r→F' r) (hF' : ∀ b r s n,bs b=true→ν.at_ b=some (r,s,n)→F' r) {τ:Id→Tr} (ih:TrOK F F' w ν nu0 τ) (hcl : ∀ b b', τ b ≠ .ren b'):TrOK F F' w ν nu0 (frzStep bs h τ):=by
 intro b hb
 cases b with
 | m B k =>
  simp only [frzStep]
  cases hbs:bs (.m B k) with
  | false=>simp
  | true =>
  simp only [cond_true]
  cases hf:getF h.fs B with
  | none=>simp
  | some f =>
  simp only []
  cases hm:memb f.ms k with
  | none=>simp
  | some es =>
  have hg:h.get (.m B k)=some (.rows f.s true es):=by simp [Hp.get,hf,hm]
  by_cases hph:ν.ph (.m B k)=true
  ·obtain ⟨s,p,hes⟩ : ∃ s p,O.rows f.s true es = .rows s p []:=by
    rcases hh.dom _ _ hg with ⟨x,hx⟩ | ⟨_,h⟩
    ·have:=ν.phx _ x hx; rw [hph] at this; cases this
    ·exact h
   cases hes
   simp [hph]
  obtain ⟨⟨r,s', n⟩,hat⟩:=hh.domP _ _ hg (by simpa using hph)
  obtain ⟨rfl,g2,_⟩:=hh.blkR hg hat
  have hrw:=rowsW_own hh hg hat
  refine .inr ⟨r,by rw [g2]; exact hat,hF' _ _ _ _ hbs hat,fun i row hrow=>?_⟩
  obtain ⟨k1,k2⟩:=hrw i row hrow
  refine ⟨k1,fun j v hj=>?_⟩
  obtain ⟨x,k3,k4,k5⟩:=k2 j v hj
  exact ⟨x,k3,k4,ri_mono hF (fun _ _=>rfl) v x k5⟩
 | p b =>
 simp only [frzStep]
 cases hbs:bs (.p b) with
 | false=>simp
 | true =>
 simp only [cond_true]
 cases hg:h.get (.p b) with
 | none =>
  have hg' : getB h.bs b=none:=hg
  simp [hg']
 | some o =>
  have hg' : getB h.bs b=some o:=hg
  by_cases hph:ν.ph (.p b)=true
  ·obtain ⟨s,p,rfl⟩ : ∃ s p,o = .rows s p []:=by
    rcases hh.dom _ o hg with ⟨x,hx⟩ | ⟨_,h⟩
    ·have:=ν.phx _ x hx; rw [hph] at this; cases this
    ·exact h
   cases p <;> simp [hg', hph]
  obtain ⟨⟨r,s', n⟩,hat⟩:=hh.domP _ o hg (by simpa using hph)
  cases o with
  | mp es =>
   simp only [hg']
   obtain ⟨r2,s2,n2,ents,g1,g2,g3⟩:=hh.blkM hg
   refine ⟨r2,s2,n2,ents,g1,hF' _ _ _ _ hbs g1,g2,fun hcl=>⟨g3.1,fun i kv hi=>?_⟩⟩
   obtain ⟨e,k1,k2,k3,k4⟩:=g3.2 i kv hi
   have hc:=List.all_eq_true.1 hcl kv (List.mem_of_getElem? hi)
   rw [Bool.and_eq_true] at hc
   exact ⟨e,k1,k2,ri_mono hF (fun _ _=>rfl) _ _ (rep_ri _ _ hc.1 k3),ri_mono hF (fun _ _=>rfl) _ _ (rep_ri _ _ hc.2 k4)⟩
  | lp q=>simp [hg']
  | it x n seen=>simp [hg']
  | rows s p es =>
  obtain ⟨rfl,g2,_⟩:=hh.blkR hg hat
  have hrw:=rowsW_own hh hg hat
  cases p with
  | true =>
   simp only [hg']
   refine .inr ⟨r,by rw [g2]; exact hat,hF' _ _ _ _ hbs hat,fun i row hrow=>?_⟩
   obtain ⟨k1,k2⟩:=hrw i row hrow
   refine ⟨k1,fun j v hj=>?_⟩
   obtain ⟨x,k3,k4,k5⟩:=k2 j v hj
   exact ⟨x,k3,k4,ri_mono hF (fun _ _=>rfl) v x k5⟩
  | false =>
   simp only [hg']
   refine .inr ⟨r,by rw [List.length_map,g2]; exact hat,hF' _ _ _ _ hbs hat,fun i row hrow=>?_⟩
   rw [List.getElem?_map,Option.map_eq_some_iff] at hrow
   obtain ⟨row0,hrow0,rfl⟩:=hrow
   obtain ⟨k1,k2⟩:=hrw i row0 hrow0
   refine ⟨by rw [trL_length]; exact k1,fun j v hj=>?_⟩
   rw [trL_get,Option.map_eq_some_iff] at hj
   obtain ⟨v0,hv0,rfl⟩:=hj
   obtain ⟨x,k3,k4,k5⟩:=k2 j v0 hv0
   exact ⟨x,k3,k4,rep_ri _ x (tr_closed (hcl) v0) (rep_tr hF ih v0 x k5)⟩
def frz1 (h:Hp):Id→Tr
 | .p b=>match getB h.bs b with
  | some (.rows s true es) => .frz s es
  | some (.rows s false es) => .frz s (es.map (trL fun _ => .drop))
  | some (.mp es) => .frzm es
  | _ => .drop
 | .m _ _ => .drop
def frz2 (h:Hp):Id→Tr
 | .p b=>match getB h.bs b with
  | some (.rows s true es) => .frz s es
  | some (.rows s false es) => .frz s (es.map (trL (frz1 h)))
  | some (.mp es) => .frzm es
  | _ => .drop
 | .m _ _ => .drop
theorem TrOK.sub {F F' : Nat→Prop} {w:World} {ν ν' : Nu} {τ τ' : Id→Tr} (h:TrOK F F' w ν ν' τ) (hs : ∀ b,τ' b=τ b∨τ' b = .drop):TrOK F F' w ν ν' τ' := by
 intro b hb
 rcases hs b with e | e
 ·rw [e]; exact h b hb
 ·rw [e]; trivial
theorem frz1_sub (h:Hp) (b:Id):frz1 h b=frzStep (fun _=>true) h (fun _ => .drop) b∨frz1 h b = .drop:=by
 cases b with
 | m B k=>exact .inr rfl
 | p n =>
  simp only [frz1,frzStep,cond_true]
  cases getB h.bs n with
  | none=>exact .inr rfl
  | some o=>cases o with
   | rows s p es=>cases p <;> exact .inl rfl
   | mp es=>exact .inl rfl
   | lp q=>exact .inr rfl
   | it x n seen=>exact .inr rfl
theorem frz2_sub (h:Hp) (b:Id):frz2 h b=frzStep (fun _=>true) h (frz1 h) b∨frz2 h b = .drop:=by
 cases b with
 | m B k=>exact .inr rfl
 | p n =>
  simp only [frz2,frzStep,cond_true]
  cases getB h.bs n with
  | none=>exact .inr rfl
  | some o=>cases o with
   | rows s p es=>cases p <;> exact .inl rfl
   | mp es=>exact .inl rfl
   | lp q=>exact .inr rfl
   | it x n seen=>exact .inr rfl
theorem frz1_cl (h:Hp) : ∀ b b', frz1 h b ≠ .ren b' := by
 intro b b'
 cases b with
 | m B k=>simp [frz1]
 | p n=>simp only [frz1]; split <;> simp
theorem frz2_cl (h:Hp) : ∀ b b', frz2 h b ≠ .ren b' := by
 intro b b'
 cases b with
 | m B k=>simp [frz2]
 | p n=>simp only [frz2]; split <;> simp
theorem K_of_K0d {P:Program} {G:Nat→Option (List V)} {f:FuncId} {ds:List TypeDesc} {args:List V} {h:Hp} {k:V→Hp→Prop} (hb:K0G P G f (trL (frz2 h) args) (fun v=>openD ds v fun v=>k v h)) :
  K P G f args h (fun _=>false) k:=by
 intro ν F w xs hh hG hl
 have own_lt : ∀ r,ν.own r→r<w.heap.size:=fun r ho=>hh.own_lt ho
 have hlt : ∀ r,(F r∨ν.own r)→r<w.heap.size:=fun r hr=>hr.elim (fun h=>(hh.frz r h).1) fun h=>own_lt r h
 have ok : ∀ {τ:Id→Tr},TrOK F (fun r=>F r∨ν.own r) w ν nu0 τ→(∀ b b', τ b ≠ .ren b')→TrOK F (fun r=>F r∨ν.own r) w ν nu0 (frzStep (fun _=>true) h τ):=fun h1 h2=>frzStep_ok hh _ (fun r h => .inl h) (fun b r s n _ hat => .inr ⟨b,s,n,hat⟩) h1 h2
 have ht:TrOK F (fun r=>F r∨ν.own r) w ν nu0 (frz2 h):=(ok ((ok (fun b hb=>trivial) (fun b b' e=>by cases e)).sub (frz1_sub h)) (frz1_cl h)).sub (frz2_sub h)
 have hl' := repL_riL _ _ (trL_closed (frz2_cl h) args) (repL_tr (fun r h => .inl h) ht _ _ hl)
 have hG' : GlobOK G (fun r=>F r∨ν.own r) w:=fun g cs hg=>ri_mono (fun r h => .inl h) (fun _ _=>rfl) _ _ (hG g cs hg)
 refine (hb _ w xs hlt hG' hl').mono fun e' w' he=>?_
 obtain ⟨x,v,F'', rfl,hk,hv,hbl,q1,q2,q3⟩:=he
 obtain ⟨hh', he⟩:=heap_call0 (F' := fun r=>F r∨(F'' r∧w.heap.size≤r)) hh hbl (fun r h => .inl h) (fun r h=>h.elim .inl fun h => .inr h.2) (fun r h=>h.elim (fun h=>q3 r (q1 r (.inl h))) fun h=>q3 r h.1)
 obtain ⟨v', hk,hrv⟩:=openD_rep hk hv
 refine ⟨x,v', ν,_,_,rfl,hk,hh', hrv _ _ _,he,fun b y hy hb=>⟨hbl.block _ ?_,hy⟩⟩
 obtain ⟨r,s,n⟩:=y
 exact own_lt r ⟨b,s,n,hy⟩
def mapsK:List (Nat×O)→Prop→Prop
 | [],p=>p
 | (_,o)::r,p=>match o with
  | .mp es=>guardB (es.all closedE) (mapsK r p)
  | _=>mapsK r p
def tr1 (h:Hp) (v:V):V:=match v with
 | .mp b=>match b with
  | .p n=>match getB h.bs n with
   | some (.mp es) => .fmp es
   | _ => .junk
  | .m _ _ => .junk
 | v=>v.tr (frz1 h)
def tr2 (h:Hp) (v:V):V:=match v with
 | .ptr b i off=>match b with
  | .p n=>match getB h.bs n with
   | some (.rows _ false es) => .adr ((es.map fun row=>row.map (tr1 h)).getD i []) off
   | _=>(V.ptr (.p n) i off).tr (frz2 h)
  | .m B k=>(V.ptr (.m B k) i off).tr (frz2 h)
 | v=>v.tr (frz2 h)
theorem mapsK_iff : ∀ {bs:List (Nat×O)} {p:Prop},mapsK bs p→p ∧ ∀ n es,getB bs n=some (.mp es)→es.all closedE=true
 | [],p,h=>⟨h,fun n es he=>by simp [getB] at he⟩
 | (a,o)::r,p,h=>by
  have key : ∀ q:p∧(∀ n es,getB r n=some (.mp es)→es.all closedE=true),(∀ es,o = .mp es→es.all closedE=true)→p ∧ ∀ n es,getB ((a,o)::r) n=some (.mp es)→es.all closedE=true:=fun q ho=>by
   refine ⟨q.1,fun n es he=>?_⟩
   rw [getB_cons] at he
   split at he
   ·simp at he; exact ho es he
   ·exact q.2 n es he
  unfold mapsK at h
  split at h
  ·rename_i es
   rw [guardB_iff] at h
   exact key (mapsK_iff h.2) fun es' e=>by cases e; exact h.1
  ·rename_i hn
   exact key (mapsK_iff h) fun es e=>(hn es e).elim
theorem tr1_eq {h:Hp} (hm : ∀ n es,getB h.bs n=some (.mp es)→es.all closedE=true) (v:V):tr1 h v=v.tr (frz1 h):=by
 unfold tr1
 split
 ·rename_i b
  cases b with
  | m B k=>simp [V.tr,frz1]
  | p n =>
   simp only [V.tr,frz1]
   cases hg:getB h.bs n with
   | none=>rfl
   | some o=>cases o with
    | rows s p es=>cases p <;> rfl
    | mp es =>
     simp only
     unfold fmpV
     rw [show (es.all fun kv=>kv.1.closed&&kv.2.closed)=true from hm n es hg]
     rfl
    | lp q=>rfl
    | it x n seen=>rfl
 ·rfl
theorem tr2_eq {h:Hp} (hm : ∀ n es,getB h.bs n=some (.mp es)→es.all closedE=true) (v:V):tr2 h v=v.tr (frz2 h):=by
 unfold tr2
 split
 ·rename_i b i off
  cases b with
  | m B k=>rfl
  | p n =>
   simp only
   split
   ·rename_i s es hg
    simp only [V.tr,frz2,hg]
    congr 2
    refine List.map_congr_left fun row _=>?_
    rw [trL_mapV]
    exact List.map_congr_left fun v _=>tr1_eq hm v
   ·rfl
 ·rfl
def forceO1 (o:O) (k:O→Prop):Prop:=match o with
 | .rows s true es=>k (.rows s true es)
 | .rows s false es=>k (.rows s false es)
 | .mp es=>k (.mp es)
 | .lp q=>k (.lp q)
 | .it x n l=>k (.it x n l)
def forceBs1:List (Nat×O)→(List (Nat×O)→Prop)→Prop
 | [],k=>k []
 | (a,o)::r,k=>forceN a fun a=>forceO1 o fun o=>forceBs1 r fun r=>k ((a,o)::r)
def forceH1 (h:Hp) (k:Hp→Prop):Prop:=match h with
 | ⟨bs,n,fs⟩=>forceBs1 bs fun bs=>forceN n fun n=>k ⟨bs,n,fs⟩
def forceAd (v:V) (k:V→Prop):Prop:=match v with
 | .adr cs off=>forceRow cs fun cs=>k (.adr cs off)
 | v=>forceArg v k
def forceAds:List V→(List V→Prop)→Prop
 | [],k=>k []
 | v::r,k=>forceAd v fun v=>forceAds r fun r=>k (v::r)
theorem forceO1_eq (o:O) (k:O→Prop):forceO1 o k=k o:=by
 cases o with
 | rows s p es=>cases p <;> rfl
 | mp es=>rfl
 | lp q=>rfl
 | it x n l=>rfl
theorem forceBs1_eq : ∀ (l:List (Nat×O)) (k:List (Nat×O)→Prop),forceBs1 l k=k l
 | [],k=>rfl
 | (a,o)::r,k=>by rw [forceBs1,forceN_eq,forceO1_eq,forceBs1_eq]
theorem forceH1_eq (h:Hp) (k:Hp→Prop):forceH1 h k=k h:=by
 obtain ⟨bs,n,fs⟩:=h
 show forceBs1 bs _=_
 rw [forceBs1_eq,forceN_eq]
theorem forceAd_eq (v:V) (k:V→Prop):forceAd v k=k v:=by
 cases v with
 | adr cs off=>show forceRow cs _=_; rw [forceRow_eq]
 | _=>unfold forceAd; exact forceArg_eq _ _
theorem forceAds_eq : ∀ (l:List V) (k:List V→Prop),forceAds l k=k l
 | [],k=>rfl
 | v::r,k=>by rw [forceAds,forceAd_eq,forceAds_eq]
def callsD (P:Program) (G:Nat→Option (List V)) (mode:FuncId→Nat) (D:FuncId→List TypeDesc) (post:FuncId→List V→Hp→Us→Hp) (rt:FuncId→List V→Us→V→(V→Prop)→Prop):Calling where
 kn:=(callsG P G mode post rt).kn
 mode:=mode
 fz:=(callsG P G mode post rt).fz
 cb:=(callsG P G mode post rt).cb
 c0:=(callsG P G mode post rt).c0
 c:=fun f args h k=>match mode f with
  | 5=>forceH1 h fun h=>mapsK h.bs <| forceAds (args.map (tr2 h)) fun args=>K0G P G f args fun v=>openD (D f) v fun v=>k v h
  | _=>(callsG P G mode post rt).c f args h k
 t:=fun f args h b=>match mode f with
  | 5=>false
  | _=>(callsG P G mode post rt).t f args h b
 strict:=(callsG P G mode post rt).strict
 base:=0
 glob:=G
 y:=(callsG P G mode post rt).y
 ty:=(callsG P G mode post rt).ty
theorem callsD_ok {P:Program} {G:Nat→Option (List V)} {mode:FuncId→Nat} {D:FuncId→List TypeDesc} {post:FuncId→List V→Hp→Us→Hp} {rt:FuncId→List V→Us→V→(V→Prop)→Prop} (hrt : ∀ f args us v k,rt f args us v k → ∃ v', k v' ∧ ∀ {F:Nat→Prop} {w:World} {ν:Nu} {x:Value},rep F w ν v x→rep F w ν v' x):(callsD P G mode D post rt).ok P:=by
 have hG:=callsG_ok (P:=P) (G:=G) (mode:=mode) (post:=post) hrt
 refine ⟨hG.kn,hG.cf,hG.cb,hG.ct,hG.mono,hG.c0,?_,hG.y⟩
 intro f args h R hc
 by_cases hm:mode f=5
 ·simp only [callsD,hm,forceH1_eq,forceAds_eq] at hc ⊢
  obtain ⟨hc,hmp⟩:=mapsK_iff hc
  rw [show args.map (tr2 h)=trL (frz2 h) args by rw [trL_mapV]; exact List.map_congr_left fun v _=>tr2_eq hmp v] at hc
  exact K_of_K0d hc
 ·have e1:(callsD P G mode D post rt).c f args h R=(callsG P G mode post rt).c f args h R:=by
   simp only [callsD]
  have e2:(callsD P G mode D post rt).t f args h=(callsG P G mode post rt).t f args h:=by
   funext b
   simp only [callsD]
  rw [e1] at hc
  have:=hG.c f args h R hc
  rw [← e2] at this
  exact this
noncomputable def cfgD (P:Program) (glob:Nat→Option (List V)) (mode:FuncId→Nat) (D:FuncId→List TypeDesc) (enter:FuncId→Bool) (kps:FuncId→Nat→Option (List Tmp)):Cfg where
 C0:=callsD P glob mode D (fun _ _ h _=>h) fun f args us v k=>k v
 enter:=enter
 clean:=fun _=>true
 kps:=kps
theorem cfgD_ok {P:Program} {glob:Nat→Option (List V)} {mode:FuncId→Nat} {D:FuncId→List TypeDesc} {enter:FuncId→Bool} {kps:FuncId→Nat→Option (List Tmp)}:(cfgD P glob mode D enter kps).ok P :=
 ⟨callsD_ok (fun f args us v k h=>⟨v,h,fun hr=>hr⟩),knowsY_none⟩
end Go.Proofs.YtkkgicjioajimaaDoor.Clean
namespace Go.Proofs.YtkkgicjioajimaaDoor
open Go Go.Proofs.YtkkgicjioajimaaDoor.Clean
set_option linter.unusedVariables false
set_option maxRecDepth 100000
abbrev C3:=Int×Int×Int
def cv (t:C3):List V:=[iv t.1,iv t.2.1,iv t.2.2]
def cel (w d:Int) (i:Nat):C3:=((i:Int).tmod w,((i:Int).tdiv w).tmod d,((i:Int).tdiv w).tdiv d)
def fi (c:List Nat) (k:Nat):List Nat:=(List.range k).filter fun i=>c.getD i 0 != 0
def celL (w d:Int) (c:List Nat) (k:Nat):List C3:=(fi c k).map (cel w d)
def fullR (L:List C3):List (List V):=L.map cv
def numE (L:List C3):List (V×V):=L.zipIdx.map fun p=>(V.agg (cv p.1),iv (p.2:Int))
def u16v (n:Nat):V := .raw (.int .u16 (n:Int))
def zr10:List V:=[iv 0,iv 0,iv 0,nilS,nilS,nilS,.raw (.map none),.raw (.map none),nilS,nilS]
def kpB:FuncId→Nat→Option (List Tmp):=slotsOf [(55,0,[4,7,26,27,28,3999999]),(55,2,[4,7,79,80,4999999,4500005,5000007,1000007,6000000]),(84,0,[0,1,15,16,4999999,4500005,5000000,1000007,6000000]),(84,2,[0,1,4,15,16,19,20,4999999,4500005,5000000,1000007,6000000]),(104,0,[0,3,7,8,9,58,59]),(105,2,[2,5,6,15,16,6000000]),(102,0,[0,3,6000000]),(85,0,[0,1,15,16,4999999,4500005,5000000,1000007,6000000])]
def moB:FuncId→Nat:=fun f=>bif inN [104,105] f then 5 else 0
def dyB:FuncId→List TypeDesc:=fun f=>bif Nat.beq f 104 then [.int .u16,.bool] else bif Nat.beq f 105 then [.int .u16] else []
noncomputable def cfB:Cfg:={ cfgD Tryd.prog glX moB dyB (inN [84,85]) kpB with fz:=fun f t=>Nat.beq f 84&&Nat.beq t 1000063,clean:=fun g => !inN [84,85] g }
noncomputable def cfF:Cfg:={ cfgD Tryd.prog glX moB dyB (inN [99,118,76,102,106]) kpB with clean:=fun g => !inN [102] g }
noncomputable def sh55n (w d h:Int) (u:Nat) (c:List Nat) (l:List Pt) (k:Nat):St:=⟨mkT [(4,V.ptr (Id.p 0) 0 0),(7,V.ptr (Id.p 1) 0 0),(26,V.lst u (nb c)),(27,iv ((nb c).length:Int)),(28,iv (k:Int))],⟨[(0,O.rows 10 true [zr10]),(1,O.rows 10 false [[iv w,iv d,iv h,V.lst u (nb c),V.lst 4 (ptl l),nilS,V.mp (Id.p 2),V.mp (Id.p 3),nilS,nilS]]),(2,O.mp []),(3,O.mp [])],4,[]⟩⟩
noncomputable def sh55s (w d h:Int) (u:Nat) (c:List Nat) (l:List Pt) (L:List C3) (k:Nat):St:=⟨mkT [(4,V.ptr (Id.p 0) 0 0),(7,V.ptr (Id.p 1) 0 0),(26,V.lst u (nb c)),(27,iv ((nb c).length:Int)),(28,iv (k:Int))],⟨[(0,O.rows 10 true [zr10]),(1,O.rows 10 false [[iv w,iv d,iv h,V.lst u (nb c),V.lst 4 (ptl l),V.sl (Id.p 2) 0 L.length,V.mp (Id.p 3),V.mp (Id.p 4),nilS,nilS]]),(2,O.rows 3 true (fullR L)),(3,O.mp (numE L)),(4,O.mp [])],5,[]⟩⟩
def mbW (x:Int×Int×Int×Int):List V:=[iv x.1,iv x.2.1,iv x.2.2.1,iv x.2.2.2]
def wlR (ws:List (Int×Int×Int×Int)):List (List V):=ws.map mbW
def u8i (n:Int):V := .raw (.int .u8 n)
abbrev WL:=Int×Int×Int×Int
noncomputable def sh55bn (w d h:Int) (u:Nat) (c:List Nat) (l:List Pt) (L:List C3) (P:List (V×V)) (r:List (List V)) (ms:List (Option (List (List V)))) (k:Nat):St:=⟨mkT [(4,V.ptr (Id.p 0) 0 0),(7,V.ptr (Id.p 1) 0 0),(79,iv (L.length:Int)),(80,iv (k:Int))],⟨[(0,O.rows 10 true [zr10]),(1,O.rows 10 false [[iv w,iv d,iv h,V.lst u (nb c),V.lst 4 (ptl l),V.sl (Id.p 2) 0 L.length,V.mp (Id.p 3),V.mp (Id.p 4),V.sl (Id.p 5) 0 L.length,nilS]]),(2,O.rows 3 true (fullR L)),(3,O.mp (numE L)),(4,O.mp P),(5,O.rows 1 false r)],6,[(0,⟨7,ms⟩)]⟩⟩
noncomputable def sh84an (w d h:Int) (u:Nat) (c:List Nat) (l:List Pt) (L:List C3) (P:List (V×V)) (r:List (List V)) (ms:List (Option (List (List V)))) (k i:Nat):St:=⟨mkT [(0,V.ptr (Id.p 1) 0 0),(1,iv (k:Int)),(15,iv ((ptl l).length:Int)),(16,iv (i:Int))],⟨[(0,O.rows 10 true [zr10]),(1,O.rows 10 false [[iv w,iv d,iv h,V.lst u (nb c),V.lst 4 (ptl l),V.sl (Id.p 2) 0 L.length,V.mp (Id.p 3),V.mp (Id.p 4),V.sl (Id.p 5) 0 L.length,nilS]]),(2,O.rows 3 true (fullR L)),(3,O.mp (numE L)),(4,O.mp P),(5,O.rows 1 false r)],6,[(0,⟨7,ms⟩)]⟩⟩
noncomputable def sh84bn (w d h:Int) (u:Nat) (c:List Nat) (l:List Pt) (L:List C3) (P:List (V×V)) (r:List (List V)) (ms:List (Option (List (List V)))) (k i j:Nat):St:=⟨mkT [(0,V.ptr (Id.p 1) 0 0),(1,iv (k:Int)),(4,iv (i:Int)),(15,iv ((ptl l).length:Int)),(16,iv (i:Int)),(19,V.agg [bv false,bv true]),(20,iv (j:Int))],⟨[(0,O.rows 10 true [zr10]),(1,O.rows 10 false [[iv w,iv d,iv h,V.lst u (nb c),V.lst 4 (ptl l),V.sl (Id.p 2) 0 L.length,V.mp (Id.p 3),V.mp (Id.p 4),V.sl (Id.p 5) 0 L.length,nilS]]),(2,O.rows 3 true (fullR L)),(3,O.mp (numE L)),(4,O.mp P),(5,O.rows 1 false r)],6,[(0,⟨7,ms⟩)]⟩⟩
noncomputable def sh85n (w d h:Int) (u:Nat) (c:List Nat) (l:List Pt) (L:List C3) (P:List (V×V)) (r:List (List V)) (ms:List (Option (List (List V)))) (k j:Nat):St:=⟨mkT [(0,V.ptr (Id.p 1) 0 0),(1,iv (k:Int)),(15,V.agg [iv 1,iv 0,iv 0,iv 0,iv 1,iv 0]),(16,iv (j:Int))],⟨[(0,O.rows 10 true [zr10]),(1,O.rows 10 false [[iv w,iv d,iv h,V.lst u (nb c),V.lst 4 (ptl l),V.sl (Id.p 2) 0 L.length,V.mp (Id.p 3),V.mp (Id.p 4),V.sl (Id.p 5) 0 L.length,nilS]]),(2,O.rows 3 true (fullR L)),(3,O.mp (numE L)),(4,O.mp P),(5,O.rows 1 false r)],6,[(0,⟨7,ms⟩)]⟩⟩
noncomputable def sh55bs (w d h:Int) (u:Nat) (c:List Nat) (l:List Pt) (L:List C3) (P:List (V×V)) (r:List (List V)) (ms:List (Option (List (List V)))) (ws:List WL) (k:Nat):St:=⟨mkT [(4,V.ptr (Id.p 0) 0 0),(7,V.ptr (Id.p 1) 0 0),(79,iv (L.length:Int)),(80,iv (k:Int))],⟨[(0,O.rows 10 true [zr10]),(1,O.rows 10 false [[iv w,iv d,iv h,V.lst u (nb c),V.lst 4 (ptl l),V.sl (Id.p 2) 0 L.length,V.mp (Id.p 3),V.mp (Id.p 4),V.sl (Id.p 5) 0 L.length,V.sl (Id.p 6) 0 ws.length]]),(2,O.rows 3 true (fullR L)),(3,O.mp (numE L)),(4,O.mp P),(5,O.rows 1 false r),(6,O.rows 4 true (wlR ws))],7,[(0,⟨7,ms⟩)]⟩⟩
noncomputable def sh84as (w d h:Int) (u:Nat) (c:List Nat) (l:List Pt) (L:List C3) (P:List (V×V)) (r:List (List V)) (ms:List (Option (List (List V)))) (ws:List WL) (k i:Nat):St:=⟨mkT [(0,V.ptr (Id.p 1) 0 0),(1,iv (k:Int)),(15,iv ((ptl l).length:Int)),(16,iv (i:Int))],⟨[(0,O.rows 10 true [zr10]),(1,O.rows 10 false [[iv w,iv d,iv h,V.lst u (nb c),V.lst 4 (ptl l),V.sl (Id.p 2) 0 L.length,V.mp (Id.p 3),V.mp (Id.p 4),V.sl (Id.p 5) 0 L.length,V.sl (Id.p 6) 0 ws.length]]),(2,O.rows 3 true (fullR L)),(3,O.mp (numE L)),(4,O.mp P),(5,O.rows 1 false r),(6,O.rows 4 true (wlR ws))],7,[(0,⟨7,ms⟩)]⟩⟩
noncomputable def sh84bs (w d h:Int) (u:Nat) (c:List Nat) (l:List Pt) (L:List C3) (P:List (V×V)) (r:List (List V)) (ms:List (Option (List (List V)))) (ws:List WL) (k i j:Nat):St:=⟨mkT [(0,V.ptr (Id.p 1) 0 0),(1,iv (k:Int)),(4,iv (i:Int)),(15,iv ((ptl l).length:Int)),(16,iv (i:Int)),(19,V.agg [bv false,bv true]),(20,iv (j:Int))],⟨[(0,O.rows 10 true [zr10]),(1,O.rows 10 false [[iv w,iv d,iv h,V.lst u (nb c),V.lst 4 (ptl l),V.sl (Id.p 2) 0 L.length,V.mp (Id.p 3),V.mp (Id.p 4),V.sl (Id.p 5) 0 L.length,V.sl (Id.p 6) 0 ws.length]]),(2,O.rows 3 true (fullR L)),(3,O.mp (numE L)),(4,O.mp P),(5,O.rows 1 false r),(6,O.rows 4 true (wlR ws))],7,[(0,⟨7,ms⟩)]⟩⟩
noncomputable def sh85s (w d h:Int) (u:Nat) (c:List Nat) (l:List Pt) (L:List C3) (P:List (V×V)) (r:List (List V)) (ms:List (Option (List (List V)))) (ws:List WL) (k j:Nat):St:=⟨mkT [(0,V.ptr (Id.p 1) 0 0),(1,iv (k:Int)),(15,V.agg [iv 1,iv 0,iv 0,iv 0,iv 1,iv 0]),(16,iv (j:Int))],⟨[(0,O.rows 10 true [zr10]),(1,O.rows 10 false [[iv w,iv d,iv h,V.lst u (nb c),V.lst 4 (ptl l),V.sl (Id.p 2) 0 L.length,V.mp (Id.p 3),V.mp (Id.p 4),V.sl (Id.p 5) 0 L.length,V.sl (Id.p 6) 0 ws.length]]),(2,O.rows 3 true (fullR L)),(3,O.mp (numE L)),(4,O.mp P),(5,O.rows 1 false r),(6,O.rows 4 true (wlR ws))],7,[(0,⟨7,ms⟩)]⟩⟩
def glT (tb:List V):Nat→Option (List V):=fun g=>match g with | 0=>some tb | _=>none
noncomputable def cfT (tb:List V):Cfg:={ cfgM Tryd.prog (glT tb) (fun _=>0) (fun _=>none) (inN [106]) kpB with fz:=fun f t=>Nat.beq f 106&&Nat.beq t 7000011 }
set_option linter.unusedSimpArgs false
set_option maxRecDepth 10000
theorem wrap_u16 (n:Int):IntKind.u16.wrap n=n % 65536:=by simp [IntKind.wrap,IntKind.signed,IntKind.bits]
theorem wrap_u32 (n:Int):IntKind.u32.wrap n=n % 4294967296:=by simp [IntKind.wrap,IntKind.signed,IntKind.bits]
theorem bv16 {s:Nat} (h:s<65536):(BitVec.ofInt 16 (s:Int)).toNat=s:=by
 rw [BitVec.ofInt_natCast,BitVec.toNat_ofNat]; exact Nat.mod_eq_of_lt h
theorem hcF:cfF.ok Tryd.prog:=by
 have h:(cfgD Tryd.prog glX moB dyB (inN [99,118,76,102,106]) kpB).ok Tryd.prog:=cfgD_ok
 exact ⟨h.1,h.2⟩
theorem hcT (tb:List V):(cfT tb).ok Tryd.prog:=by
 have h:(cfgM Tryd.prog (glT tb) (fun _=>0) (fun _=>none) (inN [106]) kpB).ok Tryd.prog:=cfgM_ok
 exact ⟨h.1,h.2⟩
def lowF:Nat→Nat→Nat
 | 0,_=>0
 | f+1,s=>if s % 2=1 then 0 else lowF f (s / 2)+1
def lowB (s:Nat):Nat:=lowF 16 s
theorem lowF_lt : ∀ f s,s≠0→s<2 ^ f→lowF f s<f∧s.testBit (lowF f s)=true
 | 0,s,h0,h=>by simp at h; exact (h0 h).elim
 | f+1,s,h0,h=>by
  unfold lowF
  split
  ·rename_i hs
   refine ⟨by omega,?_⟩
   rw [Nat.testBit_zero]; simp [hs]
  ·rename_i hs
   have:=lowF_lt f (s / 2) (by omega) (by rw [Nat.pow_succ] at h; omega)
   refine ⟨by omega,?_⟩
   rw [Nat.testBit_succ]
   exact this.2
theorem lowF_min : ∀ f s j,j<lowF f s→s.testBit j=false
 | 0,s,j,h=>by simp [lowF] at h
 | f+1,s,j,h=>by
  unfold lowF at h
  split at h
  ·omega
  ·rename_i hs
   cases j with
   | zero=>rw [Nat.testBit_zero]; simp; omega
   | succ j =>
    rw [Nat.testBit_succ]
    exact lowF_min f (s / 2) j (by omega)
theorem lowB_lt {s:Nat} (h0:s≠0) (h:s<65536):lowB s<16∧s.testBit (lowB s)=true:=lowF_lt 16 s h0 h
theorem lowB_min {s j:Nat} (h:j<lowB s):s.testBit j=false:=lowF_min 16 s j h
def tabN:List Nat:=[0,1,28,2,29,14,24,3,30,22,20,15,25,17,4,8,31,27,13,23,21,19,16,7,26,12,18,6,11,5,10,9]
def idxT (s:Nat):Nat:=(s &&& (65536 - s)) * 125613361 % 4294967296 / 134217728
def chkT (s:Nat):Bool:=Nat.beq s 0 || (tabN[idxT s]? == some (lowB s))
theorem chk_all:(List.range 256).all (fun a=>(List.range 256).all fun b=>chkT (256 * a+b))=true:=by decide +kernel
theorem chk_ok {s:Nat} (h0:s≠0) (h:s<65536):tabN[idxT s]? = some (lowB s):=by
 have h1:=List.all_eq_true.1 chk_all (s / 256) (List.mem_range.2 (by omega))
 have h2:=List.all_eq_true.1 h1 (s % 256) (List.mem_range.2 (by omega))
 rw [show 256 * (s / 256)+s % 256=s by omega] at h2
 unfold chkT at h2
 rw [Bool.or_eq_true] at h2
 rcases h2 with h2 | h2
 ·exact (h0 (Nat.eq_of_beq_eq_true h2)).elim
 ·simpa using h2
theorem tabC_at {i n:Nat} (h:tabN[i]? = some n):tabC[0+i * 1]? = some (u8v (n:Int)):=by
 have:tabC=tabN.map (fun (n:Nat)=>u8v (n:Int)):=rfl
 rw [this,Nat.zero_add,Nat.mul_one,List.getElem?_map,h]
 rfl
theorem first94T (tb:List V) (htb:tb=tabC) {s:Nat} (hs:s<65536) {R:V→Prop} (h:R (iv (lowB s:Int))):K0G Tryd.prog (glT tb) 94 [u16v s] R:=by
 refine K0_of_WY0 hmX (hcT tb) 3000 Tryd.func94 (see (p:=ifB ((↑s:Int)==(0:Int)) (R (iv (16:Int))) (genI (V.raw (Value.int IntKind.u32 ((IntKind.u32.wrap (IntKind.u32.wrap (IntKind.u16.wrap (↑(BitVec.ofInt 16 (↑s:Int) &&& BitVec.ofInt 16 (IntKind.u16.wrap ((0:Int) - (↑s:Int)))).toNat:Int)) * (125613361:Int))).fdiv ((2:Int) ^ min (Int.toNat (27:Int)) 32)))) fun kk n=>onNat n fun m=>need (m<32) (onSome tb[0+m * 1]? fun v=>onIntK IntKind.u8 v fun n=>R (iv (IntKind.i64.wrap n))))) (by kernel_rfl) ?_)
 refine ifB_mk (fun hb=>?_) (fun hb=>?_)
 ·have h0:s=0:=by have:=eq_of_beq hb; omega
  subst h0
  exact h
 ·have h0:s≠0:=by rintro rfl; simp at hb
  have h1:IntKind.u16.wrap ((0:Int) - (s:Int))=((65536 - s:Nat):Int):=by rw [wrap_u16]; omega
  have hlt:s &&& (65536 - s)<65536:=Nat.lt_of_le_of_lt Nat.and_le_left hs
  have e:((IntKind.u32.wrap (IntKind.u32.wrap (IntKind.u16.wrap ((BitVec.ofInt 16 (s:Int) &&& BitVec.ofInt 16 (IntKind.u16.wrap ((0:Int) - (s:Int)))).toNat:Int)) * (125613361:Int))).fdiv ((2:Int) ^ min (Int.toNat (27:Int)) 32))=((idxT s:Nat):Int):=by
   rw [h1,BitVec.toNat_and,bv16 hs,bv16 (by omega),wrap_u16,wrap_u32,wrap_u32]
   rw [show ((2:Int) ^ min (Int.toNat (27:Int)) 32)=134217728 by decide]
   rw [Int.fdiv_eq_ediv_of_nonneg _ (by decide)]
   unfold idxT
   generalize s &&& (65536 - s)=y at hlt ⊢
   have q1:(y:Int) % 65536=y:=by omega
   have q2:(y:Int) % 4294967296=y:=by omega
   rw [q1,q2]
   omega
  have hk:=chk_ok h0 hs
  refine ⟨_,_,rfl,?_⟩
  rw [e]
  have hi:idxT s<32:=(List.getElem?_eq_some_iff.1 hk).1
  refine onNat_mk rfl (need_mk ⟨hi,onSome_mk (by rw [htb]; exact tabC_at hk) (onIntK_u8 ?_)⟩)
  have:=(lowB_lt h0 hs).1
  rw [wr (by omega) (by omega)]
  exact h
theorem first94 {s:Nat} (hs:s<65536) {R:V→Prop} (h:R (iv (lowB s:Int))):K0G Tryd.prog glX 94 [u16v s] R:=first94T tabC rfl hs h
theorem or_lt {s n:Nat} (hs:s<65536) (hn:n<16):s ||| 1 <<< n<65536:=by
 have h1:1 <<< n<2 ^ 16:=by
  rw [Nat.one_shiftLeft]
  exact Nat.pow_lt_pow_right (by omega) hn
 exact Nat.or_lt_two_pow (n:=16) hs h1
theorem shl1 {n:Nat} (hn:n<16):IntKind.u16.wrap ((1:Int) * (2:Int) ^ min (n:Int).toNat 16)=((1 <<< n:Nat):Int):=by
 have h1:1 <<< n<2 ^ 16:=by
  rw [Nat.one_shiftLeft]
  exact Nat.pow_lt_pow_right (by omega) hn
 rw [Int.toNat_natCast,Nat.min_eq_left (by omega),Int.one_mul,wrap_u16,Nat.one_shiftLeft]
 rw [Nat.one_shiftLeft] at h1
 have:((2:Int) ^ n)=((2 ^ n:Nat):Int):=by simp
 rw [this]
 generalize (2:Nat) ^ n=m at *
 omega
theorem with119 {s n:Nat} (hs:s<65536) (hn:n<16) {R:V→Prop} (h:R (u16v (s ||| 1 <<< n))):K0G Tryd.prog glX 119 [u16v s,iv (n:Int)] R:=by
 refine K0_of_WY0 hmX hcF 3000 Tryd.func119 (see (p:=R (V.raw (Value.int IntKind.u16 (IntKind.u16.wrap (↑(BitVec.ofInt 16 (↑s:Int) ||| BitVec.ofInt 16 (IntKind.u16.wrap ((1:Int) * (2:Int) ^ min (↑n:Int).toNat 16))).toNat:Int))))) (by kernel_rfl) ?_)
 have h2:=or_lt hs hn
 have h1:1 <<< n<65536:=Nat.lt_of_le_of_lt (Nat.right_le_or) h2
 have e:(BitVec.ofInt 16 (s:Int) ||| BitVec.ofInt 16 (IntKind.u16.wrap ((1:Int) * (2:Int) ^ min (n:Int).toNat 16))).toNat=s ||| 1 <<< n:=by
  rw [shl1 hn,BitVec.toNat_or,bv16 hs,bv16 h1]
 have e2:IntKind.u16.wrap ((s ||| 1 <<< n:Nat):Int)=((s ||| 1 <<< n:Nat):Int):=by rw [wrap_u16]; omega
 rw [e,e2]
 exact h
def difN (t s:Nat):Nat:=(BitVec.ofNat 16 t &&& ~~~BitVec.ofNat 16 s).toNat
theorem difN_lt (t s:Nat):difN t s<65536:=(BitVec.ofNat 16 t &&& ~~~BitVec.ofNat 16 s).isLt
theorem difN_bit {t s j:Nat} (ht:t<65536):(difN t s).testBit j=(t.testBit j && !s.testBit j):=by
 unfold difN
 rw [BitVec.testBit_toNat,BitVec.getLsbD_and,BitVec.getLsbD_not,BitVec.getLsbD_ofNat,BitVec.getLsbD_ofNat]
 by_cases hj:j<16
 ·simp [hj]
 ·have:t.testBit j=false:=Nat.testBit_lt_two_pow (Nat.lt_of_lt_of_le ht (Nat.pow_le_pow_right (by omega) (Nat.le_of_not_lt hj):2 ^ 16≤2 ^ j))
  simp [hj,this]
theorem has73 {s t:Nat} {R:V→Prop} (h:R (bv (difN t s==0))):K0G Tryd.prog glX 73 [u16v s,u16v t] R:=by
 refine K0_of_WY0 hmX hcF 3000 Tryd.func73 (see (p:=R (bv (IntKind.u16.wrap (↑(BitVec.ofInt 16 (↑t:Int) &&& ~~~BitVec.ofInt 16 (↑s:Int)).toNat:Int)==(0:Int)))) (by kernel_rfl) ?_)
 have:=difN_lt t s
 have e:IntKind.u16.wrap ((BitVec.ofInt 16 (t:Int) &&& ~~~BitVec.ofInt 16 (s:Int)).toNat:Int)=(difN t s:Int):=by
  rw [BitVec.ofInt_natCast,BitVec.ofInt_natCast,wrap_u16]
  unfold difN at *
  omega
 rw [e]
 rw [show ((difN t s:Int)==(0:Int))=(difN t s==0) by rw [Bool.eq_iff_iff]; simp]
 exact h
theorem without95 {s t:Nat} {R:V→Prop} (h:R (u16v (difN s t))):K0G Tryd.prog glX 95 [u16v s,u16v t] R:=by
 refine K0_of_WY0 hmX hcF 3000 Tryd.func95 (see (p:=R (V.raw (Value.int IntKind.u16 (IntKind.u16.wrap (↑(BitVec.ofInt 16 (↑s:Int) &&& ~~~BitVec.ofInt 16 (↑t:Int)).toNat:Int))))) (by kernel_rfl) ?_)
 have:=difN_lt s t
 have e:IntKind.u16.wrap ((BitVec.ofInt 16 (s:Int) &&& ~~~BitVec.ofInt 16 (t:Int)).toNat:Int)=(difN s t:Int):=by
  rw [BitVec.ofInt_natCast,BitVec.ofInt_natCast,wrap_u16]
  unfold difN at *
  omega
 rw [e]
 exact h
theorem firsts100 {n:Nat} (hn:n≤16) {R:V→Prop} (h:R (u16v (2 ^ n - 1))):K0G Tryd.prog glX 100 [iv (n:Int)] R:=by
 refine K0_of_WY0 hmX hcF 3000 Tryd.func100 (see (p:=R (V.raw (Value.int IntKind.u16 (IntKind.u16.wrap (IntKind.u16.wrap ((1:Int) * (2:Int) ^ min (↑n:Int).toNat 16) - (1:Int)))))) (by kernel_rfl) ?_)
 have e:IntKind.u16.wrap (IntKind.u16.wrap ((1:Int) * (2:Int) ^ min (n:Int).toNat 16) - (1:Int))=((2 ^ n - 1:Nat):Int):=by
  rw [Int.toNat_natCast,Nat.min_eq_left hn,Int.one_mul,wrap_u16,wrap_u16]
  have h1:(2:Nat) ^ n≤2 ^ 16:=Nat.pow_le_pow_right (by omega) hn
  have h2:0<(2:Nat) ^ n:=Nat.pow_pos (by omega)
  have:((2:Int) ^ n)=((2 ^ n:Nat):Int):=by simp
  rw [this]
  generalize (2:Nat) ^ n=m at *
  omega
 rw [e]
 exact h
set_option maxRecDepth 100000
def bdA (w d h:Int) (u:Nat) (c:List Nat) (l:List Pt) (L:List C3) (pe:List (V×V)) (sb:Nat) (bl:List (List V)) (wl:V):V := .adr [iv w,iv d,iv h,V.lst u (nb c),V.lst 4 (ptl l),V.lst 3 (fullR L),V.fmp (numE L),V.fmp pe,V.lst sb bl,wl] 0
noncomputable def shF (w d h:Int) (u:Nat) (c:List Nat) (l:List Pt) (L:List C3) (pe:List (V×V)) (sb:Nat) (bl:List (List V)) (wl:V) (i:Nat) (x y z:Int) (b:Bool) (col:Int) (cov:Nat) (a p:Int) (q:Nat):St:=⟨mkT [(0,.adr [iv w,iv d,iv h,V.lst u (nb c),V.lst 4 (ptl l),V.lst 3 (fullR L),V.fmp (numE L),V.fmp pe,V.lst sb bl,wl] 0),(3,V.ptr (Id.p 0) 0 0),(7,u8i col),(8,u16v cov),(9,iv a),(58,iv p),(59,iv (q:Int))],⟨[(0,O.rows 5 false [[iv (i:Int),iv x,iv y,iv z,bv b]])],1,[]⟩⟩
set_option maxRecDepth 10000
theorem mem_fi {c:List Nat} {k i:Nat}:i∈fi c k↔i<k∧c.getD i 0≠0:=by simp [fi]
theorem fi_succ (c:List Nat) (k:Nat):fi c (k+1)=if c.getD k 0=0 then fi c k else fi c k++[k]:=by
 unfold fi
 rw [List.range_succ,List.filter_append]
 by_cases h:c.getD k 0=0
 ·have hb:(c.getD k 0 != 0)=false:=by rw [h]; rfl
  simp only [List.filter_cons,hb,List.filter_nil,if_pos h,Bool.false_eq_true,if_false,List.append_nil]
 ·have hb:(c.getD k 0 != 0)=true:=by rw [bne_iff_ne]; exact h
  simp only [List.filter_cons,hb,List.filter_nil,if_neg h,if_true]
theorem fi_nodup (c:List Nat) (k:Nat):(fi c k).Nodup:=List.nodup_range.filter _
theorem fi_length (c:List Nat) : ∀ k,k≤c.length→(fi c k).length=fullN (c.take k)
 | 0,_=>rfl
 | k+1,h=>by
  have e:c[k]? = some (c.getD k 0):=by simp [List.getD,show k<c.length from h]
  rw [fi_succ,fullN_snoc e,← fi_length c k (by omega)]
  split <;> simp
theorem fi_len (c:List Nat):(fi c c.length).length=fullN c:=by rw [fi_length c _ (Nat.le_refl _),List.take_length]
def pos (L:List C3) (t:C3):Option Nat:=L.findIdx? (fun x=>decide (x=t))
theorem pos_some {L:List C3} {t:C3} {m:Nat} (h:pos L t=some m):L[m]? = some t:=by
 unfold pos at h
 rw [List.findIdx?_eq_some_iff_getElem] at h
 obtain ⟨h1,h2,_⟩:=h
 rw [List.getElem?_eq_getElem h1]
 simpa using h2
theorem pos_none {L:List C3} {t:C3} (h:pos L t=none):t ∉ L:=by
 unfold pos at h
 rw [List.findIdx?_eq_none_iff] at h
 intro hm
 simpa using h t hm
theorem pos_of {L:List C3} (hn:L.Nodup) {t:C3} {m:Nat} (h:L[m]? = some t):pos L t=some m:=by
 unfold pos
 rw [List.findIdx?_eq_some_iff_getElem]
 obtain ⟨h1,h2⟩:=List.getElem?_eq_some_iff.1 h
 refine ⟨h1,by simpa using h2,fun j hj=>?_⟩
 simp only [decide_eq_true_eq]
 intro e
 have:=(List.getElem_inj hn).1 (e.trans h2.symm)
 omega
theorem eq98 (s t:C3):eqC Tryd.prog 8 98 (V.agg (cv s)) (V.agg (cv t))=some (s.1==t.1&&(s.2.1==t.2.1&&(s.2.2==t.2.2&&true))):=by kernel_rfl
theorem eq98b (s t:C3):(s.1==t.1&&(s.2.1==t.2.1&&(s.2.2==t.2.2&&true)))=decide (t=s):=by
 rw [Bool.eq_iff_iff]
 obtain ⟨a,b,c⟩:=s
 obtain ⟨x,y,z⟩:=t
 simp
 constructor
 ·rintro ⟨rfl,rfl,rfl⟩; exact ⟨rfl,rfl,rfl⟩
 ·rintro ⟨rfl,rfl,rfl⟩; exact ⟨rfl,rfl,rfl⟩
theorem findK_cons {P:Program} {kt:TypeId} {k k' v:V} {r:List (V×V)} {i:Nat} {b:Bool} (h:eqC P 8 kt k k' = some b):findK P kt k ((k', v)::r) i=bif b then some (some (i,k', v)) else findK P kt k r (i+1):=by
 show (eqC P 8 kt k k').bind _=_
 rw [h]
 rfl
theorem find_num (t:C3) : ∀ (L:List C3) (kk j:Nat),findK Tryd.prog 98 (V.agg (cv t)) ((L.zipIdx kk).map fun p=>(V.agg (cv p.1),iv (p.2:Int))) j=some ((pos L t).map fun n=>(j+n,V.agg (cv t),iv ((kk+n:Nat):Int)))
 | [],kk,j=>rfl
 | x::L,kk,j=>by
  rw [List.zipIdx_cons,List.map_cons,findK_cons (eq98 t x),eq98b]
  unfold pos
  rw [List.findIdx?_cons]
  by_cases e:x=t
  ·subst e; simp
  ·have ih:=find_num t L (kk+1) (j+1)
   unfold pos at ih
   simp only [e,decide_false,cond_false,ih,Bool.false_eq_true,if_false,Option.map_map]
   congr 2
   funext n
   simp only [Function.comp_apply,Prod.mk.injEq,true_and]
   exact ⟨by omega,by congr 2; omega⟩
theorem onNum {L:List C3} {t:C3} {K:Nat→V→V→Prop} {N:Prop} (h1 : ∀ m,pos L t=some m→K m (V.agg (cv t)) (iv (m:Int))) (h2:pos L t=none→N):onFind (findK Tryd.prog 98 (V.agg (cv t)) (numE L) 0) K N:=by
 have:=find_num t L 0 0
 unfold numE
 rw [this]
 cases h:pos L t with
 | none=>exact h2 h
 | some m =>
  show K (0+m) _ (iv ((0+m:Nat):Int))
  rw [Nat.zero_add]
  exact h1 m h
theorem onIntK_u16 {n:Nat} {k:Int→Prop} (h:k n):onIntK .u16 (u16v n) k:=h
theorem onLst_w {wl:V} (hw:wl=nilS ∨ ∃ s es,wl = .lst s es) {k:Nat→List (List V)→Prop} (hk : ∀ s es,k s es):onLst wl k:=by
 rcases hw with rfl | ⟨s,es,rfl⟩
 ·exact hk 0 []
 ·exact hk s es
theorem cel_pos {w d:Int} (hw:1≤w) (hd:1≤d) (i:Nat):(0≤(cel w d i).1∧(cel w d i).1<w)∧(0≤(cel w d i).2.1∧(cel w d i).2.1<d)∧0≤(cel w d i).2.2∧(cel w d i).2.2 * d+(cel w d i).2.1=(i:Int) / w∧((cel w d i).2.2 * d+(cel w d i).2.1) * w+(cel w d i).1=i:=by
 have h0:0≤(i:Int) / w:=Int.ediv_nonneg (by omega) (by omega)
 have e1:(i:Int).tmod w=(i:Int) % w:=Int.tmod_eq_emod_of_nonneg (by omega)
 have e2:(i:Int).tdiv w=(i:Int) / w:=Int.tdiv_eq_ediv_of_nonneg (by omega)
 have e3:((i:Int) / w).tmod d=((i:Int) / w) % d:=Int.tmod_eq_emod_of_nonneg h0
 have e4:((i:Int) / w).tdiv d=((i:Int) / w) / d:=Int.tdiv_eq_ediv_of_nonneg h0
 have f1:=Int.emod_nonneg (i:Int) (show w≠0 by omega)
 have f2:=Int.emod_lt_of_pos (i:Int) (show 0<w by omega)
 have f3:=Int.emod_nonneg ((i:Int) / w) (show d≠0 by omega)
 have f4:=Int.emod_lt_of_pos ((i:Int) / w) (show 0<d by omega)
 have f5:0≤(i:Int) / w / d:=Int.ediv_nonneg h0 (by omega)
 have g1:(i:Int) / w / d * d+(i:Int) / w % d=(i:Int) / w:=by
  have:=Int.mul_ediv_add_emod ((i:Int) / w) d
  rw [Int.mul_comm] at this; exact this
 have g2:(i:Int) / w * w+(i:Int) % w=i:=by
  have:=Int.mul_ediv_add_emod (i:Int) w
  rw [Int.mul_comm] at this; exact this
 simp only [cel,e1,e2,e3,e4]
 exact ⟨⟨f1,f2⟩,⟨f3,f4⟩,f5,g1,by rw [g1]; exact g2⟩
theorem cel_inj {w d:Int} (hw:1≤w) (hd:1≤d) {i j:Nat} (h:cel w d i=cel w d j):i=j:=by
 have h1:=(cel_pos hw hd i).2.2.2.2
 have h2:=(cel_pos hw hd j).2.2.2.2
 rw [h] at h1
 omega
theorem celL_nodup {w d:Int} (hw:1≤w) (hd:1≤d) (c:List Nat) (k:Nat):(celL w d c k).Nodup :=
 (fi_nodup c k).map (f:=cel w d) fun i j hne he=>hne (cel_inj hw hd he)
theorem celL_at {w d:Int} {c:List Nat} {k m:Nat} {t:C3} (h:(celL w d c k)[m]? = some t) : ∃ i,(fi c k)[m]? = some i∧cel w d i=t:=by
 unfold celL at h
 rw [List.getElem?_map,Option.map_eq_some_iff] at h
 exact h
def colN (c:List Nat) (m:Nat):Nat:=c.getD ((fi c c.length).getD m 0) 0
theorem wrapI {n:Int} (h1 : -1000000≤n) (h2:n≤1000000):IntKind.i64.wrap n=n:=wr (by omega) (by omega)
theorem col_at {w d h:Int} {c:List Nat} (hs:ShOK w d h c) {m:Nat} {t:C3} (ht:(celL w d c c.length)[m]? = some t) : ∃ i:Nat,i<c.length∧c[i]? = some (colN c m)∧colN c m≠0∧IntKind.i64.wrap (IntKind.i64.wrap (IntKind.i64.wrap (IntKind.i64.wrap (t.2.2 * d)+t.2.1) * w)+t.1)=(i:Int)∧(0≤t.1∧t.1<w)∧(0≤t.2.1∧t.2.1<d)∧(0≤t.2.2∧t.2.2<h):=by
 obtain ⟨i,h1,rfl⟩:=celL_at ht
 have hw:=hs.1; have hd:=hs.2.1; have hh:=hs.2.2.1
 have hlen:=hs.2.2.2.1
 have sz:=sizes hw hd hh
 obtain ⟨f1,f2,f3,f4,f5⟩:=cel_pos hw.1 hd.1 i
 have hm:=mem_fi.1 (List.mem_of_getElem? h1)
 have hcol:colN c m=c.getD i 0:=by unfold colN; rw [List.getD_eq_getElem?_getD (l:=fi c c.length),h1]; rfl
 have hq:0≤(i:Int) / w∧(i:Int) / w≤i:=⟨Int.ediv_nonneg (by omega) (by omega),Int.ediv_le_self _ (by omega)⟩
 have hi:i<256:=by omega
 refine ⟨i,hm.1,?_,by rw [hcol]; exact hm.2,?_,f1,f2,f3,?_⟩
 ·rw [hcol]; simp [List.getD,hm.1]
 ·generalize (cel w d i).2.2 * d=A at *
  rw [wrapI (n:=A) (by omega) (by omega),wrapI (n:=A+_) (by omega) (by omega)]
  generalize (A+(cel w d i).2.1) * w=B at *
  rw [wrapI (n:=B) (by omega) (by omega),wrapI (by omega) (by omega)]
  exact f5
 ·have q1:(i:Int) / w<d * h:=by
   refine Int.ediv_lt_of_lt_mul (by omega) ?_
   have:w * d * h=d * h * w:=by rw [Int.mul_comm (d * h) w,Int.mul_assoc]
   omega
  refine Int.lt_of_mul_lt_mul_right (a:=d) ?_ (by omega)
  have:h * d=d * h:=Int.mul_comm _ _
  omega
def fitF (L:List C3) (C:Nat→Nat) (col:Nat) (x y z a:Int):Nat→Option Nat
 | 0=>some 0
 | q+1=>(fitF L C col x y z a q).bind fun s=>(pos L (x+(q:Int).tmod a,y+(q:Int).tdiv a,z)).bind fun m=>if C m=col then some (s ||| 1 <<< m) else none
def fitS (L:List C3) (C:Nat→Nat) (p:Pt) (m0:Nat) (t:C3) (b:Bool):Option Nat :=
 if b=true∧p.1=p.2.1 then none else if p.2.2.2≠0∧p.2.2.2≠C m0 then none else fitF L C (C m0) t.1 t.2.1 t.2.2 (if b then p.2.1 else p.1) (p.1 * p.2.1).toNat
def fitV:Option Nat→V
 | some s => .tup [u16v s,bv true]
 | none => .tup [u16v 0,bv false]
theorem fitF_none {L:List C3} {C:Nat→Nat} {col:Nat} {x y z a:Int} {q:Nat} (h:fitF L C col x y z a q=none) : ∀ r,q≤r→fitF L C col x y z a r=none
 | 0,hr=>by rw [show q=0 by omega] at h; cases h
 | r+1,hr=>by
  by_cases e:q=r+1
  ·rw [← e]; exact h
  ·have:=fitF_none h r (by omega)
   simp only [fitF,this,Option.bind_none]
theorem fitF_lt {L:List C3} (hL:L.length≤16) {C:Nat→Nat} {col:Nat} {x y z a:Int} : ∀ {q s:Nat},fitF L C col x y z a q=some s→s<65536
 | 0,s,h=>by simp [fitF] at h; omega
 | q+1,s,h=>by
  simp only [fitF,Option.bind_eq_some_iff] at h
  obtain ⟨s', h1,m,h2,h3⟩:=h
  have hm:m<L.length:=(List.getElem?_eq_some_iff.1 (pos_some h2)).1
  split at h3
  ·simp at h3; rw [← h3]; exact or_lt (fitF_lt hL h1) (by omega)
  ·cases h3
theorem celL_len {w d h:Int} {c:List Nat} (hs:ShOK w d h c):(celL w d c c.length).length=fullN c∧1≤fullN c∧fullN c≤16:=by
 refine ⟨?_,by have:=hs.2.2.2.2.1; omega,by have:=hs.2.2.2.2.1; omega⟩
 unfold celL
 rw [List.length_map,fi_len]
theorem fits104 {w d h:Int} {u:Nat} {c:List Nat} {l:List Pt} {L:List C3} {pe:List (V×V)} {sb:Nat} {bl:List (List V)} {wl:V} {i m0:Nat} {n n_1 n_2:Int} {b:Bool} {p:Pt} {R:V→Prop} (hs:ShOK w d h c) (hu:u=1∨c=[]) (hL:L=celL w d c c.length)
  (hw:wl=nilS ∨ ∃ s es,wl = .lst s es) (hl:l[i]? = some p) (hp:1≤p.1∧p.1≤p.2.1∧p.2.1≤8) (hm:L[m0]? = some (n,n_1,n_2)) (hR:R (fitV (fitS L (colN c) p m0 (n,n_1,n_2) b))) :
  K0G Tryd.prog glX 104 [bdA w d h u c l L pe sb bl wl,.agg [iv (i:Int),iv n,iv n_1,iv n_2,bv b]] R:=by
 refine K0_of_WY0 hmX hcF 3000 Tryd.func104 (see (p:=onSome (ptl l)[i]? fun row=>onCons (List.drop 0 row) fun u_1 r=>onIntK IntKind.i64 u_1 fun n_3=>onCons r fun u_2 r=>onIntK IntKind.i64 u_2 fun n_4=>onCons r fun u_3 r=>onIntK IntKind.i64 u_3 fun n_5=>onCons r fun u_4 r=>onIntK IntKind.u8 u_4 fun n_6=>onLst wl fun s es=>onNat (IntKind.i64.wrap (IntKind.i64.wrap (IntKind.i64.wrap (IntKind.i64.wrap (n_2 * d)+n_1) * w)+n)) fun m=>need (u=1) (onSome (nb c)[m]? fun row=>onSome row[0]? fun v=>onIntK IntKind.u8 v fun n_7=>ifB b (ifB (n_3==n_4) (R (V.tup [V.raw (Value.int IntKind.u16 (0:Int)),bv false])) (ifB (n_6 != (0:Int)) (ifB (n_6 != n_7) (R (V.tup [V.raw (Value.int IntKind.u16 (0:Int)),bv false])) (ifB b (La 0 [(0:Tmp),(3:Tmp),(7:Tmp),(8:Tmp),(9:Tmp),(58:Tmp),(59:Tmp)] (WY Tryd.prog cfF 2991 (Env.mk (Bs.mk 0 []) 0 none 105 104 0) (cdAt [1,1,1,1,1,0,1,0,0] (bodyOf Tryd.f104))) (Qblk 0 (Qthen (WY Tryd.prog cfF 2994 (Env.mk (Bs.mk 0 []) 0 none 105 104 0) (cdAt [1,1,1,1,1,1] (bodyOf Tryd.f104)) (QendX Tryd.prog Tryd.f104 fun v h=>R (frzW h v))) (QendX Tryd.prog Tryd.f104 fun v h=>R (frzW h v)))) (St.mk (mkT [(0,V.adr [iv w,iv d,iv h,V.lst u (nb c),V.lst 4 (ptl l),V.lst 3 (fullR L),V.fmp (numE L),V.fmp pe,V.lst sb bl,wl] 0),(3,V.ptr (Id.p 0) 0 0),(7,V.raw (Value.int IntKind.u8 n_7)),(8,V.raw (Value.int IntKind.u16 (0:Int))),(9,iv n_4),(58,iv (IntKind.i64.wrap (n_4 * n_3))),(59,iv (0:Int))]) (Hp.mk [(0,O.rows 5 false [[iv (↑i:Int),iv n,iv n_1,iv n_2,bv b]])] 1 []))) (La 0 [(0:Tmp),(3:Tmp),(7:Tmp),(8:Tmp),(9:Tmp),(58:Tmp),(59:Tmp)] (WY Tryd.prog cfF 2991 (Env.mk (Bs.mk 0 []) 0 none 105 104 0) (cdAt [1,1,1,1,1,0,1,0,0] (bodyOf Tryd.f104))) (Qblk 0 (Qthen (WY Tryd.prog cfF 2994 (Env.mk (Bs.mk 0 []) 0 none 105 104 0) (cdAt [1,1,1,1,1,1] (bodyOf Tryd.f104)) (QendX Tryd.prog Tryd.f104 fun v h=>R (frzW h v))) (QendX Tryd.prog Tryd.f104 fun v h=>R (frzW h v)))) (St.mk (mkT [(0,V.adr [iv w,iv d,iv h,V.lst u (nb c),V.lst 4 (ptl l),V.lst 3 (fullR L),V.fmp (numE L),V.fmp pe,V.lst sb bl,wl] 0),(3,V.ptr (Id.p 0) 0 0),(7,V.raw (Value.int IntKind.u8 n_7)),(8,V.raw (Value.int IntKind.u16 (0:Int))),(9,iv n_3),(58,iv (IntKind.i64.wrap (n_3 * n_4))),(59,iv (0:Int))]) (Hp.mk [(0,O.rows 5 false [[iv (↑i:Int),iv n,iv n_1,iv n_2,bv b]])] 1 []))))) (ifB b (La 0 [(0:Tmp),(3:Tmp),(7:Tmp),(8:Tmp),(9:Tmp),(58:Tmp),(59:Tmp)] (WY Tryd.prog cfF 2991 (Env.mk (Bs.mk 0 []) 0 none 105 104 0) (cdAt [1,1,1,1,1,0,1,0,0] (bodyOf Tryd.f104))) (Qblk 0 (Qthen (WY Tryd.prog cfF 2994 (Env.mk (Bs.mk 0 []) 0 none 105 104 0) (cdAt [1,1,1,1,1,1] (bodyOf Tryd.f104)) (QendX Tryd.prog Tryd.f104 fun v h=>R (frzW h v))) (QendX Tryd.prog Tryd.f104 fun v h=>R (frzW h v)))) (St.mk (mkT [(0,V.adr [iv w,iv d,iv h,V.lst u (nb c),V.lst 4 (ptl l),V.lst 3 (fullR L),V.fmp (numE L),V.fmp pe,V.lst sb bl,wl] 0),(3,V.ptr (Id.p 0) 0 0),(7,V.raw (Value.int IntKind.u8 n_7)),(8,V.raw (Value.int IntKind.u16 (0:Int))),(9,iv n_4),(58,iv (IntKind.i64.wrap (n_4 * n_3))),(59,iv (0:Int))]) (Hp.mk [(0,O.rows 5 false [[iv (↑i:Int),iv n,iv n_1,iv n_2,bv b]])] 1 []))) (La 0 [(0:Tmp),(3:Tmp),(7:Tmp),(8:Tmp),(9:Tmp),(58:Tmp),(59:Tmp)] (WY Tryd.prog cfF 2991 (Env.mk (Bs.mk 0 []) 0 none 105 104 0) (cdAt [1,1,1,1,1,0,1,0,0] (bodyOf Tryd.f104))) (Qblk 0 (Qthen (WY Tryd.prog cfF 2994 (Env.mk (Bs.mk 0 []) 0 none 105 104 0) (cdAt [1,1,1,1,1,1] (bodyOf Tryd.f104)) (QendX Tryd.prog Tryd.f104 fun v h=>R (frzW h v))) (QendX Tryd.prog Tryd.f104 fun v h=>R (frzW h v)))) (St.mk (mkT [(0,V.adr [iv w,iv d,iv h,V.lst u (nb c),V.lst 4 (ptl l),V.lst 3 (fullR L),V.fmp (numE L),V.fmp pe,V.lst sb bl,wl] 0),(3,V.ptr (Id.p 0) 0 0),(7,V.raw (Value.int IntKind.u8 n_7)),(8,V.raw (Value.int IntKind.u16 (0:Int))),(9,iv n_3),(58,iv (IntKind.i64.wrap (n_3 * n_4))),(59,iv (0:Int))]) (Hp.mk [(0,O.rows 5 false [[iv (↑i:Int),iv n,iv n_1,iv n_2,bv b]])] 1 [])))))) (ifB (n_6 != (0:Int)) (ifB (n_6 != n_7) (R (V.tup [V.raw (Value.int IntKind.u16 (0:Int)),bv false])) (ifB b (La 0 [(0:Tmp),(3:Tmp),(7:Tmp),(8:Tmp),(9:Tmp),(58:Tmp),(59:Tmp)] (WY Tryd.prog cfF 2991 (Env.mk (Bs.mk 0 []) 0 none 105 104 0) (cdAt [1,1,1,1,1,0,1,0,0] (bodyOf Tryd.f104))) (Qblk 0 (Qthen (WY Tryd.prog cfF 2994 (Env.mk (Bs.mk 0 []) 0 none 105 104 0) (cdAt [1,1,1,1,1,1] (bodyOf Tryd.f104)) (QendX Tryd.prog Tryd.f104 fun v h=>R (frzW h v))) (QendX Tryd.prog Tryd.f104 fun v h=>R (frzW h v)))) (St.mk (mkT [(0,V.adr [iv w,iv d,iv h,V.lst u (nb c),V.lst 4 (ptl l),V.lst 3 (fullR L),V.fmp (numE L),V.fmp pe,V.lst sb bl,wl] 0),(3,V.ptr (Id.p 0) 0 0),(7,V.raw (Value.int IntKind.u8 n_7)),(8,V.raw (Value.int IntKind.u16 (0:Int))),(9,iv n_4),(58,iv (IntKind.i64.wrap (n_4 * n_3))),(59,iv (0:Int))]) (Hp.mk [(0,O.rows 5 false [[iv (↑i:Int),iv n,iv n_1,iv n_2,bv b]])] 1 []))) (La 0 [(0:Tmp),(3:Tmp),(7:Tmp),(8:Tmp),(9:Tmp),(58:Tmp),(59:Tmp)] (WY Tryd.prog cfF 2991 (Env.mk (Bs.mk 0 []) 0 none 105 104 0) (cdAt [1,1,1,1,1,0,1,0,0] (bodyOf Tryd.f104))) (Qblk 0 (Qthen (WY Tryd.prog cfF 2994 (Env.mk (Bs.mk 0 []) 0 none 105 104 0) (cdAt [1,1,1,1,1,1] (bodyOf Tryd.f104)) (QendX Tryd.prog Tryd.f104 fun v h=>R (frzW h v))) (QendX Tryd.prog Tryd.f104 fun v h=>R (frzW h v)))) (St.mk (mkT [(0,V.adr [iv w,iv d,iv h,V.lst u (nb c),V.lst 4 (ptl l),V.lst 3 (fullR L),V.fmp (numE L),V.fmp pe,V.lst sb bl,wl] 0),(3,V.ptr (Id.p 0) 0 0),(7,V.raw (Value.int IntKind.u8 n_7)),(8,V.raw (Value.int IntKind.u16 (0:Int))),(9,iv n_3),(58,iv (IntKind.i64.wrap (n_3 * n_4))),(59,iv (0:Int))]) (Hp.mk [(0,O.rows 5 false [[iv (↑i:Int),iv n,iv n_1,iv n_2,bv b]])] 1 []))))) (ifB b (La 0 [(0:Tmp),(3:Tmp),(7:Tmp),(8:Tmp),(9:Tmp),(58:Tmp),(59:Tmp)] (WY Tryd.prog cfF 2991 (Env.mk (Bs.mk 0 []) 0 none 105 104 0) (cdAt [1,1,1,1,1,0,1,0,0] (bodyOf Tryd.f104))) (Qblk 0 (Qthen (WY Tryd.prog cfF 2994 (Env.mk (Bs.mk 0 []) 0 none 105 104 0) (cdAt [1,1,1,1,1,1] (bodyOf Tryd.f104)) (QendX Tryd.prog Tryd.f104 fun v h=>R (frzW h v))) (QendX Tryd.prog Tryd.f104 fun v h=>R (frzW h v)))) (St.mk (mkT [(0,V.adr [iv w,iv d,iv h,V.lst u (nb c),V.lst 4 (ptl l),V.lst 3 (fullR L),V.fmp (numE L),V.fmp pe,V.lst sb bl,wl] 0),(3,V.ptr (Id.p 0) 0 0),(7,V.raw (Value.int IntKind.u8 n_7)),(8,V.raw (Value.int IntKind.u16 (0:Int))),(9,iv n_4),(58,iv (IntKind.i64.wrap (n_4 * n_3))),(59,iv (0:Int))]) (Hp.mk [(0,O.rows 5 false [[iv (↑i:Int),iv n,iv n_1,iv n_2,bv b]])] 1 []))) (La 0 [(0:Tmp),(3:Tmp),(7:Tmp),(8:Tmp),(9:Tmp),(58:Tmp),(59:Tmp)] (WY Tryd.prog cfF 2991 (Env.mk (Bs.mk 0 []) 0 none 105 104 0) (cdAt [1,1,1,1,1,0,1,0,0] (bodyOf Tryd.f104))) (Qblk 0 (Qthen (WY Tryd.prog cfF 2994 (Env.mk (Bs.mk 0 []) 0 none 105 104 0) (cdAt [1,1,1,1,1,1] (bodyOf Tryd.f104)) (QendX Tryd.prog Tryd.f104 fun v h=>R (frzW h v))) (QendX Tryd.prog Tryd.f104 fun v h=>R (frzW h v)))) (St.mk (mkT [(0,V.adr [iv w,iv d,iv h,V.lst u (nb c),V.lst 4 (ptl l),V.lst 3 (fullR L),V.fmp (numE L),V.fmp pe,V.lst sb bl,wl] 0),(3,V.ptr (Id.p 0) 0 0),(7,V.raw (Value.int IntKind.u8 n_7)),(8,V.raw (Value.int IntKind.u16 (0:Int))),(9,iv n_3),(58,iv (IntKind.i64.wrap (n_3 * n_4))),(59,iv (0:Int))]) (Hp.mk [(0,O.rows 5 false [[iv (↑i:Int),iv n,iv n_1,iv n_2,bv b]])] 1 []))))))) (by kernel_rfl) ?_)
 have hm' := hm
 rw [hL] at hm'
 obtain ⟨i0,g1,g2,g3,g4,gx,gy,gz⟩:=col_at hs hm'
 simp only at g4 gx gy gz
 have hlen:=celL_len hs
 rw [← hL] at hlen
 have hw1:=hs.1; have hd1:=hs.2.1; have hh1:=hs.2.2.1
 have hu1:u=1:=hu.resolve_right (by rintro rfl; simp at g1)
 have hpq:1 * 1≤p.1 * p.2.1:=Int.mul_le_mul hp.1 (by omega) (by omega) (by omega)
 have hpq2:p.1 * p.2.1≤8 * 8:=Int.mul_le_mul (by omega) hp.2.2 (by omega) (by omega)
 obtain ⟨n_7,hn7⟩ : ∃ n_7:Int,n_7=(colN c m0:Int):=⟨_,rfl⟩
 have loop : ∀ (a p' : Int),1≤a→a≤8→p' = p.1 * p.2.1→R (fitV (fitF L (colN c) (colN c m0) n n_1 n_2 a (p.1 * p.2.1).toNat))→La 0 [(0:Tmp),(3:Tmp),(7:Tmp),(8:Tmp),(9:Tmp),(58:Tmp),(59:Tmp)] (WY Tryd.prog cfF 2991 (Env.mk (Bs.mk 0 []) 0 none 105 104 0) (cdAt [1,1,1,1,1,0,1,0,0] (bodyOf Tryd.f104))) (Qblk 0 (Qthen (WY Tryd.prog cfF 2994 (Env.mk (Bs.mk 0 []) 0 none 105 104 0) (cdAt [1,1,1,1,1,1] (bodyOf Tryd.f104)) (QendX Tryd.prog Tryd.f104 fun v h=>R (frzW h v))) (QendX Tryd.prog Tryd.f104 fun v h=>R (frzW h v)))) (shF w d h u c l L pe sb bl wl i n n_1 n_2 b n_7 0 a p' 0):=by
  intro a p' ha ha8 hp' hR
  refine La.of (σ:=Nat×Nat) (fun x=>shF w d h u c l L pe sb bl wl i n n_1 n_2 b n_7 x.1 a p' x.2) (fun x=>(x.2:Int)≤p' ∧ fitF L (colN c) (colN c m0) n n_1 n_2 a x.2=some x.1) (fun x=>p'.toNat - x.2) (0,0) (by kernel_rfl) ⟨by simp only; omega,rfl⟩ ?_
  rintro ⟨cov,q⟩ ⟨k1,k2⟩ J hJ
  simp only at k1 k2
  refine see (p:=ifB (decide ((↑q:Int)<p')) (need (a≠(0:Int)) (need (a≠(0:Int)) (onFind (findK Tryd.prog 98 (V.agg [iv (IntKind.i64.wrap (n+(↑q:Int).tmod a)),iv (IntKind.i64.wrap (n_1+IntKind.i64.wrap ((↑q:Int).tdiv a))),iv n_2]) (numE L) 0) (fun i_1 kv vv=>onIntK IntKind.i64 vv fun n_3=>onLst wl fun s es=>onNat (IntKind.i64.wrap (IntKind.i64.wrap (IntKind.i64.wrap (IntKind.i64.wrap (n_2 * d)+IntKind.i64.wrap (n_1+IntKind.i64.wrap ((↑q:Int).tdiv a))) * w)+IntKind.i64.wrap (n+(↑q:Int).tmod a))) fun m=>need (u=1) (onSome (nb c)[m]? fun row=>onSome row[0]? fun v=>onIntK IntKind.u8 v fun n_4=>ifB (n_4 != n_7) (R (V.tup [V.raw (Value.int IntKind.u16 (0:Int)),bv false])) (K0G Tryd.prog glX 119 [V.raw (Value.int IntKind.u16 (↑cov:Int)),iv n_3] fun v=>onIntK IntKind.u16 v fun n_5=>J (St.mk (mkT [(0,V.adr [iv w,iv d,iv h,V.lst u (nb c),V.lst 4 (ptl l),V.lst 3 (fullR L),V.fmp (numE L),V.fmp pe,V.lst sb bl,wl] 0),(3,V.ptr (Id.p 0) 0 0),(7,V.raw (Value.int IntKind.u8 n_7)),(8,V.raw (Value.int IntKind.u16 n_5)),(9,iv a),(58,iv p'),(59,iv (IntKind.i64.wrap ((↑q:Int)+(1:Int))))]) (Hp.mk [(0,O.rows 5 false [[iv (↑i:Int),iv n,iv n_1,iv n_2,bv b]])] 1 []))))) (R (V.tup [V.raw (Value.int IntKind.u16 (0:Int)),bv false]))))) (R (V.tup [V.raw (Value.int IntKind.u16 (↑cov:Int)),bv true]))) (by kernel_rfl) ?_
  refine ifB_mk (fun hb=>?_) (fun hb=>?_)
  ·have hlt:=of_decide_eq_true hb
   have q0:0≤(q:Int).tmod a∧(q:Int).tmod a<a:=by
    rw [Int.tmod_eq_emod_of_nonneg (by omega)]
    exact ⟨Int.emod_nonneg _ (by omega),Int.emod_lt_of_pos _ (by omega)⟩
   have q1:0≤(q:Int).tdiv a∧(q:Int).tdiv a≤q:=by
    rw [Int.tdiv_eq_ediv_of_nonneg (by omega)]
    exact ⟨Int.ediv_nonneg (by omega) (by omega),Int.ediv_le_self _ (by omega)⟩
   refine need_mk ⟨by omega,need_mk ⟨by omega,?_⟩⟩
   rw [wrapI (n:=(q:Int).tdiv a) (by omega) (by omega),wrapI (n:=n+_) (by omega) (by omega),wrapI (n:=n_1+_) (by omega) (by omega)]
   have stop:(pos L (n+(q:Int).tmod a,n_1+(q:Int).tdiv a,n_2)).bind (fun m=>if colN c m=colN c m0 then some (cov ||| 1 <<< m) else none)=none→R (V.tup [V.raw (Value.int IntKind.u16 (0:Int)),bv false]):=fun e=>by
    have:fitF L (colN c) (colN c m0) n n_1 n_2 a (q+1)=none:=by simp only [fitF,k2,Option.bind_some]; exact e
    rw [fitF_none this _ (by omega)] at hR
    exact hR
   refine onNum (t:=(n+(q:Int).tmod a,n_1+(q:Int).tdiv a,n_2)) (fun m hm2=>?_) (fun hm2=>stop (by rw [hm2]; rfl))
   have hm3:=pos_some hm2
   rw [hL] at hm3
   obtain ⟨i1,r1,r2,r3,r4,rx,ry,rz⟩:=col_at hs hm3
   have hml:m<16:=by have:=(List.getElem?_eq_some_iff.1 (pos_some hm2)).1; omega
   simp only at r4
   refine onIntK_iv (onLst_w hw fun s es=>onNat_mk r4 (need_mk ⟨hu1,nbel r2 (ifB_mk (fun hb=>stop ?_) (fun hb=>?_))⟩))
   ·rw [hm2,Option.bind_some,if_neg]
    rintro e
    rw [hn7,e] at hb
    simp at hb
   ·have hcov:=fitF_lt (by omega) k2
    have he:colN c m=colN c m0:=by
     rw [hn7] at hb
     have:((colN c m:Nat):Int)=(colN c m0:Int):=by simpa using hb
     omega
    refine with119 hcov hml (onIntK_u16 ?_)
    rw [wrapI (by omega) (by omega)]
    refine hJ (cov ||| 1 <<< m,q+1) ⟨by simp only; omega,?_⟩ (by simp only; omega)
    simp only [fitF,k2,Option.bind_some,hm2,he,if_true]
  ·have hge:=of_decide_eq_false hb
   rw [show (p.1 * p.2.1).toNat=q by omega,k2] at hR
   exact hR
 refine ptel hl (onLst_w hw fun s es=>onNat_mk g4 (need_mk ⟨hu1,nbel g2 ?_⟩))
 unfold fitS at hR
 simp only at hR
 have hww:IntKind.i64.wrap (p.1 * p.2.1)=p.1 * p.2.1:=wrapI (by omega) (by omega)
 have hww2:IntKind.i64.wrap (p.2.1 * p.1)=p.1 * p.2.1:=by rw [Int.mul_comm]; exact hww
 have tail : ¬ (b=true∧p.1=p.2.1) → ¬ (p.2.2.2≠0∧p.2.2.2≠colN c m0)→R (fitV (fitF L (colN c) (colN c m0) n n_1 n_2 (if b then p.2.1 else p.1) (p.1 * p.2.1).toNat)):=fun h1 h2=>by
  rw [if_neg h1,if_neg h2] at hR
  exact hR
 have bad : ∀ x:Nat,p.2.2.2≠0→(((p.2.2.2:Nat):Int) != (colN c m0:Int))=true→p.2.2.2≠0∧p.2.2.2≠colN c m0:=fun _ h0 hb=>⟨h0,by rintro e; rw [e] at hb; simp at hb⟩
 have good:(((p.2.2.2:Nat):Int) != (colN c m0:Int))=false→p.2.2.2=colN c m0:=fun hb=>by
  have:((p.2.2.2:Nat):Int)=(colN c m0:Int):=by simpa using hb
  omega
 have z1:(((p.2.2.2:Nat):Int) != (0:Int))=true→p.2.2.2≠0:=fun hb e=>by rw [e] at hb; simp at hb
 have z2:(((p.2.2.2:Nat):Int) != (0:Int))=false→p.2.2.2=0:=fun hb=>by
  have:((p.2.2.2:Nat):Int)=0:=by simpa using hb
  omega
 have go : ¬ (b=true∧p.1=p.2.1) → ¬ (p.2.2.2≠0∧p.2.2.2≠colN c m0)→(b=true→La 0 [(0:Tmp),(3:Tmp),(7:Tmp),(8:Tmp),(9:Tmp),(58:Tmp),(59:Tmp)] (WY Tryd.prog cfF 2991 (Env.mk (Bs.mk 0 []) 0 none 105 104 0) (cdAt [1,1,1,1,1,0,1,0,0] (bodyOf Tryd.f104))) (Qblk 0 (Qthen (WY Tryd.prog cfF 2994 (Env.mk (Bs.mk 0 []) 0 none 105 104 0) (cdAt [1,1,1,1,1,1] (bodyOf Tryd.f104)) (QendX Tryd.prog Tryd.f104 fun v h=>R (frzW h v))) (QendX Tryd.prog Tryd.f104 fun v h=>R (frzW h v)))) (shF w d h u c l L pe sb bl wl i n n_1 n_2 b n_7 0 p.2.1 (IntKind.i64.wrap (p.2.1 * p.1)) 0))∧(b=false→La 0 [(0:Tmp),(3:Tmp),(7:Tmp),(8:Tmp),(9:Tmp),(58:Tmp),(59:Tmp)] (WY Tryd.prog cfF 2991 (Env.mk (Bs.mk 0 []) 0 none 105 104 0) (cdAt [1,1,1,1,1,0,1,0,0] (bodyOf Tryd.f104))) (Qblk 0 (Qthen (WY Tryd.prog cfF 2994 (Env.mk (Bs.mk 0 []) 0 none 105 104 0) (cdAt [1,1,1,1,1,1] (bodyOf Tryd.f104)) (QendX Tryd.prog Tryd.f104 fun v h=>R (frzW h v))) (QendX Tryd.prog Tryd.f104 fun v h=>R (frzW h v)))) (shF w d h u c l L pe sb bl wl i n n_1 n_2 b n_7 0 p.1 (IntKind.i64.wrap (p.1 * p.2.1)) 0)):=fun h1 h2=>by
  have:=tail h1 h2
  refine ⟨fun hb=>?_,fun hb=>?_⟩
  ·rw [hww2]
   rw [hb,if_pos rfl] at this
   exact loop _ _ (by omega) (by omega) rfl this
  ·rw [hww]
   rw [hb,if_neg (by simp)] at this
   exact loop _ _ (by omega) (by omega) rfl this
 rw [hn7] at go
 refine ifB_mk (fun b1=>?_) (fun b1=>?_)
 ·refine ifB_mk (fun b2=>?_) (fun b2=>?_)
  ·rw [if_pos ⟨b1,by simpa using b2⟩] at hR
   exact hR
  ·have nb : ¬ (b=true∧p.1=p.2.1):=fun e=>by rw [e.2] at b2; simp at b2
   refine ifB_mk (fun b3=>ifB_mk (fun b4=>?_) (fun b4=>ifB_t b1 ((go nb fun e=>e.2 (good b4)).1 b1))) (fun b3=>ifB_t b1 ((go nb fun e=>e.1 (z2 b3)).1 b1))
   rw [if_neg nb,if_pos (bad 0 (z1 b3) b4)] at hR
   exact hR
 ·have nb : ¬ (b=true∧p.1=p.2.1):=fun e=>by rw [e.1] at b1; cases b1
  refine ifB_mk (fun b3=>ifB_mk (fun b4=>?_) (fun b4=>ifB_f b1 ((go nb fun e=>e.2 (good b4)).2 b1))) (fun b3=>ifB_f b1 ((go nb fun e=>e.1 (z2 b3)).2 b1))
  rw [if_neg nb,if_pos (bad 0 (z1 b3) b4)] at hR
  exact hR
set_option maxRecDepth 100000
noncomputable def recT (A:V) (s:Nat) (b:LoopState):Nat×O:=(3,O.lp ⟨b,none,mkT [(0,A),(1,u16v s),(2,V.ptr (Id.p 0) 0 0),(4,u16v 0),(5,V.ptr (Id.p 1) 0 0),(12,u16v s),(13,V.fn (Fn.func 102) [] [V.ptr (Id.p 2) 0 0])],46, #[14],rfA (cdAt [1,1,0,1,0] (bodyOf Tryd.f105)),rfB (cdAt [1,1,0,1,0] (bodyOf Tryd.f105)),105⟩)
noncomputable def shW (A:V) (s s' t:Nat):St:=⟨mkT [(0,V.yl (Id.p 3)),(3,u16v s')],⟨[(0,O.rows 1 false [[A]]),(1,O.rows 1 false [[u16v t]]),(2,O.rows 1 false [[u16v s]]),recT A s .ready],4,[]⟩⟩
noncomputable def shX (A:V) (s:Nat) (n:Int) (t j:Nat):St:=⟨mkT [(2,V.ptr (Id.p 0) 0 0),(5,V.ptr (Id.p 1) 0 0),(6,iv n),(15,V.agg [iv (-1:Int),iv (1:Int)]),(16,iv (j:Int))],⟨[(0,O.rows 1 false [[A]]),(1,O.rows 1 false [[u16v t]]),(2,O.rows 1 false [[u16v s]]),recT A s .busy],4,[]⟩⟩
end Go.Proofs.YtkkgicjioajimaaDoor
