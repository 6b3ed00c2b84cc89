/- A part of the proof. -/
import Derived.RangeFuncRecord
import Derived.RangeFuncNested
import Derived.Test.YtkkgicjioajimaaDoorXA7G7
namespace Go.Proofs.YtkkgicjioajimaaDoor.Clean
set_option linter.unusedSimpArgs false
set_option linter.unusedVariables false
section
variable {ν:Nu} {F:Nat→Prop} {h:Hp} {w w' : World} {S:Nat→Prop}
structure Shut (S:Nat→Prop) (w w' : World):Prop where
 os:w'.os=w.os
 tape:w'.tape=w.tape
 output:w'.output=w.output
 size:w'.heap.size=w.heap.size
 same : ∀ r, ¬ S r→w'.heap[r]? = w.heap[r]?
 drawn:w'.drawn=w.drawn
theorem Shut.evoW (hs:Shut S w w') (hk:HeapOK ν F h w) (hS : ∀ r,S r → ¬ν.own r ∧ ¬F r):EvoW ν F w ν F w' :=
  ⟨fun h => h, fun _ _ _ h => h, fun _ _ h => h, fun b r s n hat c e fr _ hc => ⟨c, by rw [hs.same r (fun h => (hS r h).1 ⟨b, s, n, hat⟩)]; exact hc, rfl⟩,
   fun v x hr=>ri_mono (fun _ h=>h) (fun b hb=>hs.same b (fun h=>(hS b h).2 hb)) v x hr⟩
theorem HeapOK.shut (hk:HeapOK ν F h w) (hs:Shut S w w') (hS : ∀ r,S r → ¬ν.own r ∧ ¬F r):HeapOK ν F h w' :=
 ⟨fun b r s n hat=>let ⟨o,g1,g2⟩:=hk.blk b r s n hat; ⟨o,g1,obl_evoW (hs.evoW hk hS) (hs.same r (fun h=>(hS r h).1 ⟨b,s,n,hat⟩)) g2⟩,hk.dom,hk.inj,fun r hr=>by rw [hs.size]; exact hk.frz r hr,hk.nxt,hk.cnt⟩
theorem Evo.shut {ν' : Nu} {F' : Nat→Prop} {w2:World} (e:Evo ν F w ν' F' w') (hs:Shut S w' w2) (hS : ∀ r,S r → ¬ν'.own r∧w.heap.size≤r):Evo ν F w ν' F' w2 :=
  ⟨hs.os.trans e.os, hs.tape.trans e.tape, hs.output.trans e.output, by rw [hs.size]; exact e.size, fun r hr ho => (hs.same r (fun h => absurd (hS r h).2 (by omega))).trans (e.old r hr ho), e.fmono, e.fnew, e.onew, e.keep, e.nxt, e.cnt, e.kph,
   fun b r s n h1 h2 c el fr hc=>let ⟨c', g1,g2⟩:=e.len b r s n h1 h2 c el fr hc; ⟨c', by rw [hs.same r (fun h=>(hS r h).1 ⟨b,s,n,h2⟩)]; exact g1,g2⟩,by rw [hs.drawn]; exact e.drawn⟩
structure MarksOK (B:Nat) (ν:Nu) (F:Nat→Prop) (D:List Deferred) (w:World):Prop where
 each : ∀ d∈D, ∃ r,d={ target := .collected r,args := #[] }∧w.heap[r]? = some (.deferred (some [])) ∧ ¬ν.own r ∧ ¬F r∧B≤r
 apart:D.Pairwise fun d d' => d.target≠d'.target
theorem MarksOK.nil {B:Nat}:MarksOK B ν F [] w:=⟨fun d h=>(by cases h),List.Pairwise.nil⟩
theorem MarksOK.evo {B:Nat} {D:List Deferred} {ν' : Nu} {F' : Nat→Prop} (m:MarksOK B ν F D w) (e:Evo ν F w ν' F' w'):MarksOK B ν' F' D w' :=
 ⟨fun d hd=>by
  obtain ⟨r,h1,h2,h3,h4,h5⟩:=m.each d hd
  have hlt:=lt_of_some h2
  refine ⟨r,h1,(e.old r hlt h3).trans h2,fun ho=>?_,fun hf=>?_,h5⟩
  ·rcases e.onew r ho with h | h
   ·exact h3 h
   ·omega
  ·rcases e.fnew r hf with h | h | h
   ·exact h4 h
   ·exact h3 h
   ·omega,m.apart⟩
def ofMarks (D:List Deferred) (r:Nat):Prop := ∃ d∈D,d.target = .collected r
theorem leaves_marks {P:Program} {fn:Func} {tmps:Array Value} : ∀ (D:List Deferred) (w:World),(∀ d∈D, ∃ r,d={ target := .collected r,args := #[] }∧w.heap[r]? = some (.deferred (some [])))→(D.Pairwise fun d d' => d.target≠d'.target) →
  ∃ w', Shut (ofMarks D) w w' ∧ ∀ R:Ending→World→Prop,(∃ v,(results fn tmps).run P w' = .ok v w' ∧ R (.returned v) w')→LeavesInM (Frm none) 0 P fn tmps R D .returning w
 | [],w,_,_=>⟨w,⟨rfl,rfl,rfl,rfl,fun _ _=>rfl,by first | exact Nat.le_refl _ | exact Nat.le_succ _ | assumption | exact e.drawn | exact he.drawn | exact hb.drawn | exact hb.1.drawn | exact h.drawn | exact g6.drawn | exact h2.drawn | exact ed.drawn | exact e1.drawn | exact hk.drawn | (subst_vars; exact Nat.le_refl _) | (simp; done) | omega⟩,fun R h=>h⟩
 | d::ds,w,he,hp=>by
  obtain ⟨r,hd,hr⟩:=he d (by simp)
  rw [List.pairwise_cons] at hp
  have hlt:=lt_of_some hr
  obtain ⟨w', hs,hl⟩:=leaves_marks (P:=P) (fn:=fn) (tmps:=tmps) ds (w.putObj r (.deferred none)) (fun d' hd' => by
   obtain ⟨r', e1,e2⟩:=he d' (by simp [hd'])
   refine ⟨r', e1,?_⟩
   rw [World.putObj_heap_other (fun h=>hp.1 d' hd' (by rw [hd,e1,h]))]
   exact e2) hp.2
  refine ⟨w', ⟨hs.os,hs.tape,hs.output,by rw [hs.size]; simp,fun q hq=>?_,by rw [hs.drawn]; rfl⟩,fun R h=>⟨by simp,.inl ⟨r,_,by rw [hd],run_takeDeferred hr,hl R h⟩⟩⟩
  rw [hs.same q (fun ⟨d', h1,h2⟩=>hq ⟨d', by simp [h1],h2⟩)]
  exact World.putObj_heap_other (fun h=>hq ⟨d,by simp,by rw [hd,h]⟩)
end
theorem calls_marks {P:Program} {f:FuncId} {fn:Func} {c:Code} {args:Array Value} {w:World} {R:Ending→World→Prop} {Φ:Exit→Act→World→Prop} (hf:P.funcs[f]? = some fn) (hb:fn.body=some c)
  (h:c.wpIn (Frm none) 0 P Φ { tmps:=args++Array.replicate (fn.ntmps - args.size) undef,defers:=[] } w)
  (hΦ : ∀ e a' w', Φ e a' w' → (e = .normal∨e = .ret)∧(∀ d∈a'.defers, ∃ r,d={ target := .collected r,args := #[] }∧w'.heap[r]? = some (.deferred (some [])))∧(a'.defers.Pairwise fun d d' => d.target≠d'.target) ∧
   ∀ wE,Shut (ofMarks a'.defers) w' wE → ∃ v,(results fn a'.tmps).run P wE = .ok v wE∧R (.returned v) wE):Calls P f args w R :=
 callsIn_Frm.1 (callsIn_of_wp_marks (F:=Frm none) (n:=0) hf hb trivial (wpIn_mono h fun e a' w' hq=>by
  obtain ⟨h1,h2,h3,h4⟩:=hΦ e a' w' hq
  obtain ⟨wE,hs,hl⟩:=leaves_marks (P:=P) (fn:=fn) (tmps:=a'.tmps) a'.defers w' h2 h3
  have:=hl R (h4 wE hs)
  rcases h1 with rfl | rfl
  ·exact this
  ·exact this))
def onLp (h:Hp) (b:Id) (k:Lr→Prop):Prop :=
 match b with
 | .p n=>match getB h.bs n with
  | some (.lp q)=>k q
  | _=>nope
 | .m _ _=>nope
theorem onLp_iff {h:Hp} {b:Id} {k:Lr→Prop}:onLp h b k ↔ ∃ n q,b = .p n∧h.get (.p n)=some (.lp q)∧k q:=by
 cases b with
 | m B j=>simp [onLp]
 | p n =>
  simp only [onLp,Hp.get,Id.p.injEq]
  constructor
  ·intro hk
   split at hk
   ·rename_i q hg
    exact ⟨n,q,rfl,hg,hk⟩
   ·exact hk.elim
  ·rintro ⟨m,q,rfl,hg,hk⟩
   rw [hg]
   exact hk
def Lr.go (q:Lr) (s:LoopState) (p:Option Code):Lr:={ q with state:=s,pending:=p }
noncomputable def putL (N:Nat):List Tmp→List V→T V→(T V→Prop)→Prop
 | [],[],tm,k=>k tm
 | t::ts,v::vs,tm,k=>guardB (Nat.blt t N&&Nat.blt t 1000000) (putL N ts vs (T.setF (some v) 20 tm t) k)
 | _,_,_,_=>nope
section
variable {ν:Nu} {F:Nat→Prop} {h:Hp} {w:World} {G:Nat→Option (List V)}
theorem lp_at (hk:HeapOK ν F h w) {b:Id} {q:Lr} (hg:h.get b=some (.lp q)) : ∃ l s n rec,ν.at_ b=some (l,s,n)∧w.heap[l]? = some (.loop rec)∧lrOK (rep F w ν) q rec:=by
 rcases hk.dom b _ hg with ⟨⟨l,s,n⟩,hat⟩ | ⟨_,_,_,h⟩
 ·obtain ⟨o,g1,g2⟩:=hk.blk b l s n hat
  rw [hg] at g1
  cases g1
  obtain ⟨rec,g3,g4⟩:=g2
  exact ⟨l,s,n,rec,hat,g3,g4⟩
 ·cases h
theorem get_putP (h:Hp) (b:Nat) (o:O) (j:Id):(h.put (.p b) o).get j=if j = .p b then some o else h.get j:=by
 cases j with
 | p j =>
  simp only [Hp.get,Hp.put,getB_cons,getB_delB,Id.p.injEq]
  by_cases hb:j=b
  ·simp [hb]
  ·rw [if_neg (by omega),if_neg hb,if_neg hb]
 | m B k=>simp [Hp.get,Hp.put]
theorem heap_setL (hk:HeapOK ν F h w) {b:Nat} {l s n:Nat} {q' : Lr} {rec rec' : Loop} (hat:ν.at_ (.p b)=some (l,s,n)) (hl:w.heap[l]? = some (.loop rec)) (hq:lrOK (rep F w ν) q' rec') :
  HeapOK ν F (h.put (.p b) (.lp q')) (w.putObj l (.loop rec'))∧Evo ν F w ν F (w.putObj l (.loop rec')) :=
 heap_setO hk hat (get_putP h b (.lp q')) (put_nxt _ _ _) (put_cnt hk _ _) (fun r hr=>World.putObj_heap_other hr) (by simp) rfl rfl rfl (fun c1 e1 fr hc1=>by rw [hl] at hc1; cases hc1)
  (fun e=>⟨rec', World.putObj_heap_same (lt_of_some hl),hq.mono (rep_evo hk e)⟩)
theorem putL_ok {N:Nat} : ∀ (ts:List Tmp) (vs:List V) (xs:List Value) (tm:T V) (tmps:Array Value) (k:T V→Prop),SlotOK G F w ν tm tmps→tmps.size=N→repL F w ν vs xs→putL N ts vs tm k →
  ∃ tm', k tm' ∧ SlotOK G F w ν tm' ((ts.zip xs).foldl (fun t (p:Tmp×Value)=>t.setIfInBounds p.1 p.2) tmps)∧((ts.zip xs).foldl (fun t (p:Tmp×Value)=>t.setIfInBounds p.1 p.2) tmps).size=N∧ts.length=xs.length
 | [],[],xs,tm,tmps,k,hs,hN,hl,hk=>by
  simp only [repL] at hl
  subst hl
  exact ⟨tm,hk,by simpa using hs,by simpa using hN,rfl⟩
 | t::ts,v::vs,xs,tm,tmps,k,hs,hN,hl,hk=>by
  simp only [repL] at hl
  obtain ⟨x,xs,rfl,hx,hl⟩:=hl
  obtain ⟨tm1,q1,q2,q3,_⟩:=put_ok (a:={ tmps:=tmps,defers:=[] }) (d:=some t) (k:=fun tm=>putL N ts vs tm k) hs hN hx (by simpa only [putL,putT] using hk)
  obtain ⟨tm', g1,g2,g3,g4⟩:=putL_ok ts vs xs tm1 _ k q2 q3 hl q1
  exact ⟨tm', g1,g2,g3,by simp [g4]⟩
 | [],v::vs,xs,tm,tmps,k,hs,hN,hl,hk=>by simp [putL] at hk
 | t::ts,[],xs,tm,tmps,k,hs,hN,hl,hk=>by simp [putL] at hk
end
def Qthen (X:St→Prop) (Q:Post):Post:=fun e s=>match e with | .norm=>X s | e=>Q e s
noncomputable def QendX (P:Program) (fn:Func) (k:V→Hp→Prop):Post:=fun e st=>match e with
 | .norm | .ret=>wRes P fn.results st fun v=>k v st.h
 | _=>False
def Qround (b:Id) (k:V→Hp→Prop):Post:=fun e st=>onLp st.h b fun q=>match e with
 | .norm=>k (.raw (.bool true)) (st.h.put b (.lp (q.go .ready none)))
 | .exit i=>k (.raw (.bool false)) (st.h.put b (.lp (q.go .done (some (.exit i)))))
 | .ret=>k (.raw (.bool false)) (st.h.put b (.lp (q.go .done (some .ret))))
def Qassign (b:Id) (X:St→Prop):Post:=fun e st=>match e with
 | .norm=>onLp st.h b fun q=>match q.state with
  | .ready=>X ⟨st.tm,st.h.put b (.lp (q.go .busy q.pending))⟩
  | _=>False
 | _=>False
structure Bs where
 n:Nat
 ks:List Id
def Id.lows (s:Bs) (b:Id):Bool:=b.low s.n || s.ks.any b.beq
def Id.ges (s:Bs) (b:Id):Bool:=b.ge s.n && !s.ks.any b.beq
def Bs.zero (s:Bs):Bool:=Nat.beq s.n 0&&s.ks.isEmpty
def Bs.le (s:Bs) (m:Nat):Bool:=Nat.ble s.n m&&s.ks.all (·.low m)
structure Cfg where
 C0:Calling
 enter:FuncId→Bool:=fun _=>true
 clean:FuncId→Bool:=fun _=>false
 known:FuncId→List V→Option V:=fun _ _=>none
 kps:FuncId→Nat→Option (List Tmp):=fun _ _=>none
 fz:FuncId→Tmp→Bool:=fun _ _=>false
 spare:FuncId→List Nat:=fun _=>[]
def ptrOf:Option V→Option Id
 | some (.ptr b _ _)=>some b
 | _=>none
def spared (l:List Nat) (vs:List V):List Id:=l.filterMap fun i=>ptrOf vs[i]?
def Cfg.baseOf (cfg:Cfg) (base:Bs) (g:FuncId) (vs:List V) (h:Hp):Bs:=bif cfg.clean g then ⟨h.nxt,[]⟩ else ⟨base.n,spared (cfg.spare g) vs++base.ks⟩
abbrev Cfg.glob (cfg:Cfg):Nat→Option (List V):=cfg.C0.glob
structure Env where
 base:Bs
 nb:Nat
 ro:Option Id
 N:Nat
 fid:FuncId
 cur:Nat
def refsH:O→List Id
 | .rows _ true _=>[]
 | .rows _ false es=>es.flatMap refsL
 | .mp es=>es.flatMap fun kv=>kv.1.refs++kv.2.refs
 | .lp _=>[]
 | .it x _ _=>x.refs
noncomputable def T.flat {β:Type} (f:V→List β) (t:T V):List β :=
 T.rec (motive:=fun _=>List β) [] (fun v _ _ l r=>(match v with | some v=>f v | none=>[])++l++r) t
noncomputable def refsR:O→List Id
 | .lp q=>q.tm.flat V.refs
 | o=>refsH o
noncomputable def reachA:Nat→Hp→List Id→List Id→List Id
 | 0,_,_,seen=>seen
 | _+1,_,[],seen=>seen
 | f+1,h,b::r,seen=>bif seen.any b.beq then reachA f h r seen else match h.get b with
  | some o=>reachA f h (refsR o++r) (seen++[b])
  | none=>reachA f h r seen
def newIds (nb:Nat):List Id→List Id
 | []=>[]
 | .p a::r=>bif Nat.ble nb a then .p a::newIds nb r else newIds nb r
 | .m B k::r => .m B k::newIds nb r
def numb (n:Nat):List Id→List (Id×Nat)
 | []=>[]
 | b::r=>(b,n)::numb (n+1) r
def oldIds (nb:Nat):List (Nat×O)→List (Id×Nat)
 | []=>[]
 | (a,_)::r=>bif Nat.blt a nb then (.p a,a)::oldIds nb r else oldIds nb r
def rawRow:List V→Bool
 | []=>true
 | .raw _::r=>rawRow r
 | _=>false
def arrO:Option O→Bool
 | some (.rows s false es)=>bif Nat.ble 8 s then (match es with | [row]=>rawRow row | _=>false) else false
 | _=>false
def puOf (h:Hp):List (Id×Nat)→List Nat
 | []=>[]
 | (a,b)::r=>bif arrO (h.get a) then b::puOf h r else puOf h r
noncomputable def autoKeep1 (nb:Nat) (slots:List Tmp) (st:St):Keep :=
 let own:=newIds nb (reachA 2000 st.h (slots.flatMap fun t=>match st.tm.get t with | some v=>v.refs | none=>[]) [])
 { slots:=slots,blocks:=oldIds nb st.h.bs++numb nb own,nxt:=nb+own.length,pu:=puOf st.h (numb nb own) }
def famFit (h:Hp) (kp:Keep):Bool :=
 (kp.fams.all fun f=>match f.of with
  | some B=>B.beq f.to&&(match getF h.fs B with | some g=>g.s.beq f.s | none=>false)
  | none=>(getF h.fs f.to).isNone)&&(h.fs.all fun p=>kp.fams.any fun f=>f.to.beq p.1)
def keepFitF (nb:Nat) (h:Hp) (kp:Keep):Bool :=
 kp.ok&&Nat.ble nb kp.nxt&&(kp.blocks.all fun p=>Nat.ble nb p.2 || p.1.beq (.p p.2))&&(h.bs.all fun p=>Nat.ble nb p.1 || kp.blocks.any fun q=>q.1.beq (.p p.1)&&q.2.beq p.1)&&kp.nils.isEmpty&&famFit h kp
def famSlots:List Tmp→List (Nat×Nat)
 | []=>[]
 | t::r=>bif Nat.ble 1000000 t then ((t - 1000000) / 100,(t - 1000000) % 100)::famSlots r else famSlots r
def plainSlots:List Tmp→List Tmp
 | []=>[]
 | t::r=>bif Nat.ble 1000000 t then plainSlots r else t::plainSlots r
def dedupI:List Id→List Id→List Id
 | [],seen=>seen
 | b::r,seen=>bif seen.any b.beq then dedupI r seen else dedupI r (seen++[b])
def plainIds:List Id→List Id
 | []=>[]
 | .p a::r => .p a::plainIds r
 | .m _ _::r=>plainIds r
def newPure (nb s:Nat) (own:List Id):List (Nat×O)→List Nat
 | []=>[]
 | (a,o)::r=>match o with
  | .rows s' p _=>bif p&&s'.beq s&&Nat.ble nb a && !own.any (Id.beq (.p a)) then a::newPure nb s own r else newPure nb s own r
  | _=>newPure nb s own r
def famKeep (nb:Nat) (own:List Id) (h:Hp):List (Nat×Nat)→List Fk
 | []=>[]
 | (B,s)::r=>⟨(getF h.fs B).map fun _=>B,B,s,newPure nb s own h.bs⟩::famKeep nb own h r
noncomputable def autoKeepF (nb:Nat) (fl:List (Nat×Nat)) (slots:List Tmp) (st:St) (ex:List Id):Keep :=
 let own:=newIds nb (plainIds (dedupI ((slots.flatMap fun t=>match st.tm.get t with | some v=>v.refs | none=>[])++ex) []))
 { slots:=slots,blocks:=oldIds nb st.h.bs++numb nb own,nxt:=nb+own.length,pu:=puOf st.h (numb nb own),fams:=famKeep nb own st.h fl }
noncomputable def autoKeep2 (nb:Nat) (slots:List Tmp) (st:St) (ex:List Id):Keep :=
 match famSlots slots with
 | []=>autoKeep1 nb slots st
 | fl=>autoKeepF nb fl (plainSlots slots) st ex
def mapSlots:List Tmp→List Tmp
 | []=>[]
 | t::r=>bif Nat.ble 3000000 t && !Nat.ble 4000000 t then (t - 3000000)::mapSlots r else mapSlots r
def mapFSlots:List Tmp→List Tmp
 | []=>[]
 | t::r=>bif Nat.ble 4000000 t && !Nat.ble 5000000 t then (t - 4000000)::mapFSlots r else mapFSlots r
def boxSlots:List Tmp→List Tmp
 | []=>[]
 | t::r=>bif Nat.ble 5000000 t && !Nat.ble 6000000 t then (t - 5000000)::boxSlots r else boxSlots r
def allMaps:List (Nat×O)→List Nat
 | []=>[]
 | (a,o)::r=>match o with
  | .mp _=>a::allMaps r
  | _=>allMaps r
def noMaps:List Tmp→List Tmp
 | []=>[]
 | t::r=>bif Nat.ble 3000000 t then noMaps r else t::noMaps r
def boxRow:Option O→List V
 | some (.rows _ false [row])=>row
 | _=>[]
noncomputable def mapIds (st:St) (l:List Tmp):List Nat:=l.flatMap fun t=>bif Nat.beq t 999999 then allMaps st.h.bs else bif Nat.ble 500000 t then [t - 500000] else match st.tm.get t with
 | some (.mp (.p b))=>[b]
 | _=>[]
noncomputable def boxIds (st:St) (l:List Tmp):List Id:=l.flatMap fun t=>match st.tm.get t with
 | some (.ptr b _ _)=>refsL (boxRow (st.h.get b))
 | _=>[]
def hideM (pm:List Nat):List (Nat×O)→List (Nat×O)
 | []=>[]
 | (a,o)::r=>(a,match o with | .mp es => .mp (bif pm.any a.beq then [] else es) | o=>o)::hideM pm r
def insB (x:Id×Nat):List (Id×Nat)→List (Id×Nat)
 | []=>[x]
 | y::r=>bif Nat.ble x.2 y.2 then x::y::r else y::insB x r
def sortB:List (Id×Nat)→List (Id×Nat)
 | []=>[]
 | x::r=>insB x (sortB r)
noncomputable def autoKeep0 (nb:Nat) (slots:List Tmp) (st:St):Keep :=
 match mapFSlots slots with
 | []=>match mapSlots slots with
  | []=>autoKeep2 nb slots st []
  | ms=>autoKeep1 nb (noMaps slots) ⟨st.tm,⟨hideM (mapIds st ms) st.h.bs,st.h.nxt,st.h.fs⟩⟩
 | _=>autoKeep2 nb (noMaps slots) st (boxIds st (boxSlots slots))
def noSort:List Tmp→List Tmp
 | []=>[]
 | t::r=>bif Nat.ble 6000000 t then noSort r else t::noSort r
noncomputable def autoKeep (nb:Nat) (slots:List Tmp) (st:St):Keep:=bif slots.any (Nat.beq 6000000) then { autoKeep0 nb (noSort slots) st with blocks:=sortB (autoKeep0 nb (noSort slots) st).blocks } else autoKeep0 nb slots st
def keepFit1 (nb:Nat) (h:Hp) (kp:Keep):Bool :=
 h.fs.isEmpty&&kp.ok&&Nat.ble nb kp.nxt&&(kp.blocks.all fun p=>Nat.ble nb p.2 || p.1.beq (.p p.2))&&(h.bs.all fun p=>Nat.ble nb p.1 || kp.blocks.any fun q=>q.1.beq (.p p.1)&&q.2.beq p.1)
def keepFit (nb:Nat) (h:Hp) (kp:Keep):Bool:=match kp.fams with
 | []=>keepFit1 nb h kp
 | _=>keepFitF nb h kp
def closedE (kv:V×V):Bool:=kv.1.closed&&kv.2.closed
def pmGo (h:Hp) (p:Prop):List Nat→Prop
 | []=>p
 | b::r=>match getB h.bs b with
  | some (.mp es)=>guardB (es.all closedE) (pmGo h p r)
  | _=>pmGo h p r
noncomputable def keepBsM (pm:List Nat) (τ:Id→Tr) (pu:List Nat) (h:Hp):List (Id×Nat)→List (Nat×O)
 | []=>[]
 | (a,b)::r=>match h.get a with
  | some (.rows s true es)=>(b,.rows s true es)::keepBsM pm τ pu h r
  | some (.rows s false es)=>(b,bif pu.any b.beq&&es.all closedL then .rows s true es else .rows s false (es.map (trL τ)))::keepBsM pm τ pu h r
  | some (.mp es)=>bif pm.any (fun n=>a.beq (.p n)) then (b,.mp es)::keepBsM pm τ pu h r else (b,.mp (es.map fun kv=>(kv.1.tr τ,kv.2.tr τ)))::keepBsM pm τ pu h r
  | some (.lp q)=>(b,.lp (q.mapV (V.tr τ)))::keepBsM pm τ pu h r
  | some (.it x n seen)=>(b,.it (x.tr τ) n seen)::keepBsM pm τ pu h r
  | none=>keepBsM pm τ pu h r
noncomputable def Keep.stM (pm:List Nat) (kp:Keep) (st:St):St :=
 ⟨mkT (nilTs kp.nils++(kp.slots.filterMap fun t=>(st.tm.get t).map fun v=>(t,v.tr (kp.ren st.h)))),⟨nilBs kp.nils++keepBsM pm (kp.ren st.h) kp.pu st.h kp.blocks,kp.nxt,keepFs st.h kp.fams⟩⟩
def trMv (tk:List Nat) (B n0:Nat):V→V
 | .sl b lo len=>match b with
  | .p a=>match posOf tk a with
   | some j => .sl (.m B (n0+j)) lo len
   | none => .sl (.p a) lo len
  | .m B' k => .sl (.m B' k) lo len
 | v=>v
def trM (tk:List Nat) (B n0:Nat) (es:List (V×V)):List (V×V):=es.map fun kv=>(kv.1,trMv tk B n0 kv.2)
def goodV (tk:List Nat) (B:Nat) (old:Bool):V→Bool
 | .sl b _ _=>match b with
  | .p a=>(posOf tk a).isSome
  | .m B' _=>old&&B'.beq B
 | v=>v.closed
def goodE (tk:List Nat) (B:Nat) (old:Bool) (kv:V×V):Bool:=kv.1.closed&&goodV tk B old kv.2
def natK (n:Nat) (k:Nat→Prop):Prop:=bif n.beq 0 then k 0 else bif n.beq 1 then k 1 else False
def listK:List Nat→(List Nat→Prop)→Prop
 | [],k=>k []
 | a::r,k=>listK r fun r' => k (a::r')
def oldK (h:Hp) (f:Fk) (k:Bool→Nat→Prop):Prop:=match f.of with
 | none=>k false 0
 | some B=>bif B.beq f.to then (match getF h.fs f.to with
  | some g=>bif g.s.beq f.s then k true g.ms.length else False
  | none=>False) else False
def trR (tk:List Nat) (B n0:Nat) (es:List (List V)):List (List V):=es.map fun row=>row.map (trMv tk B n0)
def goodR (tk:List Nat) (B:Nat) (old:Bool) (row:List V):Bool:=row.all (goodV tk B old)
def famGo (h:Hp) (tk:List Nat) (B:Nat) (old:Bool) (p:Prop):List Nat→Prop
 | []=>p
 | b::r=>match getB h.bs b with
  | some (.mp es)=>guardB (es.all (goodE tk B old)) (famGo h tk B old p r)
  | some (.rows s false es)=>guardB (es.all (goodR tk B old)) (famGo h tk B old p r)
  | _=>famGo h tk B old p r
noncomputable def keepBsF (tk:List Nat) (B n0:Nat) (pm:List Nat) (τ:Id→Tr) (pu:List Nat) (h:Hp):List (Id×Nat)→List (Nat×O)
 | []=>[]
 | (a,b)::r=>match h.get a with
  | some (.rows s true es)=>(b,.rows s true es)::keepBsF tk B n0 pm τ pu h r
  | some (.rows s false es)=>bif pm.any (fun n=>a.beq (.p n)) && !pu.any b.beq then (b,.rows s false (trR tk B n0 es))::keepBsF tk B n0 pm τ pu h r else (b,bif pu.any b.beq&&es.all closedL then .rows s true es else .rows s false (es.map (trL τ)))::keepBsF tk B n0 pm τ pu h r
  | some (.mp es)=>bif pm.any (fun n=>a.beq (.p n)) then (b,.mp (trM tk B n0 es))::keepBsF tk B n0 pm τ pu h r else (b,.mp (es.map fun kv=>(kv.1.tr τ,kv.2.tr τ)))::keepBsF tk B n0 pm τ pu h r
  | some (.lp q)=>(b,.lp (q.mapV (V.tr τ)))::keepBsF tk B n0 pm τ pu h r
  | some (.it x n seen)=>(b,.it (x.tr τ) n seen)::keepBsF tk B n0 pm τ pu h r
  | none=>keepBsF tk B n0 pm τ pu h r
noncomputable def Keep.stF (tk:List Nat) (B n0:Nat) (pm:List Nat) (kp:Keep) (st:St):St :=
 ⟨mkT (nilTs kp.nils++(kp.slots.filterMap fun t=>(st.tm.get t).map fun v=>(t,v.tr (kp.ren st.h)))),⟨nilBs kp.nils++keepBsF tk B n0 pm (kp.ren st.h) kp.pu st.h kp.blocks,kp.nxt,keepFs st.h kp.fams⟩⟩
noncomputable def goF (kp:Keep) (pm:List Nat) (st:St) (k:St→Prop):Prop:=match kp.fams with
 | [f]=>natK f.to fun B=>listK f.take fun tk=>oldK st.h f fun old n0=>famGo st.h tk B old (k (kp.stF tk B n0 pm st)) pm
 | _=>False
noncomputable def autoGo (nb:Nat) (slots:List Tmp) (st:St) (k:St→Prop):Prop:=guardB (keepFit nb st.h (autoKeep nb slots st)) (match mapFSlots slots with
 | []=>(match mapSlots slots with
  | []=>k ((autoKeep nb slots st).st st)
  | ms=>pmGo st.h (k ((autoKeep nb slots st).stM (mapIds st ms) st)) (mapIds st ms))
 | ms=>goF (autoKeep nb slots st) (mapIds st ms) st k)
noncomputable def Qla (nb:Nat) (slots:List Tmp) (I:St→Prop) (Q:Post):Post:=fun e s=>match e with | .norm=>autoGo nb slots s I | e=>Q e s
structure La (nb:Nat) (slots:List Tmp) (B:Post→St→Prop) (Q:Post) (st:St):Prop where
 out : ∀ I:St→Prop,(∀ s,B (Qla nb slots I Q) s→I s)→I st
def frzStep (bs:Id→Bool) (h:Hp) (ih:Id→Tr):Id→Tr
 | .m B k=>bif bs (.m B k) then match getF h.fs B with
  | some f=>match memb f.ms k with
   | some es => .frz f.s es
   | none => .drop
  | none => .drop else .drop
 | .p b=>bif bs (.p b) then match getB h.bs b with
  | some (.rows s true es) => .frz s es
  | some (.rows s false es) => .frz s (es.map (trL ih))
  | some (.mp es) => .frzm es
  | _ => .drop else .drop
noncomputable def frzDT (bs:Id→Bool) (h:Hp) (d:Nat):Id→Tr:=Nat.rec (motive:=fun _=>Id→Tr) (fun _ => .drop) (fun _ ih=>frzStep bs h ih) d
noncomputable def frzW (h:Hp) (v:V):V:=v.tr (frzDT (fun _=>true) h 6)
noncomputable def lentY (h:Hp) (vs:List V):List Id:=reachA 2000 h (refsL vs) []
noncomputable def frzL (h:Hp) (vs:List V):List V:=match refsL vs with
 | []=>vs
 | _=>trL (frzDT (fun b=>(lentY h vs).any b.beq) h 6) vs
def gcB (n:Nat) (live:List Id):List (Nat×O)→List (Nat×O)
 | []=>[]
 | (a,o)::r=>bif Nat.blt a n || live.any (Id.beq (.p a)) then (a,o)::gcB n live r else gcB n live r
noncomputable def gcH (n:Nat) (v:V) (h:Hp):Hp:=⟨gcB n (reachA 2000 h v.refs []) h.bs,h.nxt,h.fs⟩
mutual
noncomputable def rawV:V→Bool
 | .raw _=>true
 | .agg cs | .tup cs=>rawL cs
 | _=>false
noncomputable def rawL:List V→Bool
 | []=>true
 | v::vs=>rawV v&&rawL vs
end
noncomputable def cY (P:Program) (cfg:Cfg) (W:Env→Code→Post→St→Prop) (base:Bs) (g:FuncId) (vs:List V) (h:Hp) (k:V→Hp→Prop):Prop:=bif cfg.enter g then (match cfg.known g (frzL h vs) with
  | some r=>k r (bif rawV r then h else delAll h (lentY h vs))
  | none=>onSome P.funcs[g]? fun fn=>onSome fn.body fun c=>guardB (Nat.ble vs.length fn.ntmps&&Nat.ble vs.length 1000)
   (W ⟨cfg.baseOf base g vs h,h.nxt,none,fn.ntmps,g,0⟩ c (QendX P fn fun v h' => k v (bif cfg.clean g then gcH h.nxt v h' else h')) ⟨start vs,h⟩)) else cfg.C0.c g vs h k
noncomputable def tY (cfg:Cfg) (base:Bs) (g:FuncId) (vs:List V) (h:Hp) (b:Id):Bool:=bif cfg.enter g then (match cfg.known g (frzL h vs) with
  | some r=>bif rawV r then false else (lentY h vs).any b.beq
  | none => !b.lows (cfg.baseOf base g vs h)) else cfg.C0.t g vs h b
noncomputable def yY (cfg:Cfg) (W:Env→Code→Post→St→Prop) (base:Bs) (b:Id) (vs:List V) (h:Hp) (k:V→Hp→Prop):Prop:=guardB (b.ges base) <| onLp h b fun q=>putL q.N q.ps.toList vs q.tm fun tm =>
  W ⟨base,h.nxt,some b,q.N,q.fid,0⟩ q.assign (Qassign b fun st=>W ⟨base,h.nxt,some b,q.N,q.fid,0⟩ q.body (Qround b k) st) ⟨tm,h⟩
noncomputable def callY (P:Program) (cfg:Cfg) (W:Env→Code→Post→St→Prop) (base:Bs) (fid:FuncId):Calling where
 kn:=cfg.C0.kn
 mode g:=bif cfg.enter g then 2 else cfg.C0.mode g
 fz:=cfg.fz fid
 cb:=cfg.C0.cb
 c0:=cfg.C0.c0
 c g vs h k:=cY P cfg W base g vs h k
 t g vs h b:=tY cfg base g vs h b
 strict:=cfg.C0.strict
 base:=0
 glob:=cfg.C0.glob
 y b vs h k:=yY cfg W base b vs h k
 ty b := !b.lows base
noncomputable def isRaw (o:Option V):Bool:=match o with | none=>true | some r=>rawV r
theorem isRaw_none {o:Option V} (h:o.isNone=true):isRaw o=true:=by cases o with | none=>rfl | some r=>cases h
noncomputable def askY (cfg:Cfg) (base:Bs):Ask:=fun ρ h o=>match o with
 | .box .. | .alloc _ | .buildSlice .. | .makeSlice .. => true
 | .store _ x _=>match ρ x with | .ptr b _ _=>b.ges base | _=>false
 | .makeMap .. | .range .. | .entry _=>true
 | .next x _=>match ρ x with | .ptr b _ _=>b.ges base | _=>false
 | .mapUpdate _ m _ _ | .insert _ m _ _ | .mapEntry _ m _ | .entryStore _ m _ _=>match ρ m with | .mp b=>b.ges base | _=>false
 | .call c=>match c.callee with
  | .builtin .append=>match c.args.toList.map ρ with | .sl b _ _::_=>b.ges base | .raw _::_=>true | .lsx _ _::_=>true | _=>false
  | .builtin .copy=>match c.args.toList.map ρ with | .sl b _ _::_=>b.ges base | .lst _ _::_=>true | _=>false
  | .value f=>match ρ f with
   | .fn (.func g) first caps=>base.zero || (match cfg.C0.kn g,first++c.args.toList.map ρ++caps with
    | some _,[]=>true
    | _,vs=>match bif cfg.enter g then 2 else cfg.C0.mode g with | 0=>(refsL vs).all (·.ges base) | 1=>true | 4=>true | _=>cfg.enter g&&base.le h.nxt&&(isRaw (cfg.known g (frzL h vs)) || (lentY h vs).all (·.ges base)))
   | .yl _=>true
   | _=>false
  | _=>quietOp o
 | _=>quietOp o
def roHas (h:Hp) (ro:Option Id) (k:Prop):Prop:=match ro with | none=>k | some b=>onLp h b fun _=>k
noncomputable def kontY (W:Env→Code→Post→St→Prop) (e:Env) (Q:Post) (tm:T V) (n:Nat) (_:V) (h:Hp):Prop:=onLp h (.p n) fun q=>match q.state with
 | .busy=>False
 | _=>match q.pending with
  | none=>Q .norm ⟨tm,h.del (.p n)⟩
  | some c=>W e c Q ⟨tm,h.del (.p n)⟩
noncomputable def WY (P:Program) (cfg:Cfg):Nat→Env→Code→Post→St→Prop
 | 0,_,_,_,_=>False
 | f+1,e,c,Q,st=>match c with
  | .skip=>Q .norm st
  | .label _=>Q .norm st
  | .region _ ops draw=>match draw with
   | false=>wOps P (callY P cfg (WY P cfg f) e.base e.fid) (askY cfg e.base) e.N ops.toList ops.toList st (Q .norm)
   | true=>guardB (regionOK ops (prepAll ops.toList)) (wDraw P (callY P cfg (WY P cfg f) e.base e.fid) (askY cfg e.base) e.N ops.toList (prepAll ops.toList) ops.size 0 [] st (Q .norm))
  | .seq a b=>WY P cfg f e a (Qthen (WY P cfg f e b Q) Q) st
  | .cond c a b=>onBool (ev cfg.C0.glob st.tm c) fun t=>ifB t (WY P cfg f e a Q st) (WY P cfg f e b Q st)
  | .block id a=>WY P cfg f { e with cur:=id } a (Qblk id Q) st
  | .loop a=>match cfg.kps e.fid e.cur with
   | none=>WY P cfg f e a (Qthen (WY P cfg f e (.loop a) Q) Q) st
   | some slots=>guardB (e.base.le e.nb) (autoGo e.nb slots st (La e.nb slots (WY P cfg f e a) Q))
  | .scope a=>WY P cfg f e a Q st
  | .exit id=>Q (.exit id) st
  | .ret=>Q .ret st
  | .rangeFunc g ps assign body=>match ev cfg.C0.glob st.tm g with
   | .fn (.func fid) first caps => guardB (e.base.le st.h.nxt) <| roHas st.h e.ro <| onSome P.funcs[fid]? fun fn => guardB (cfg.enter fid && fn.body.isSome && (fn.name != "runtime.NumGoroutine") && (cfg.known fid (frzL (st.h.add (.lp ⟨.ready, none, st.tm, e.N, ps, assign, body, e.fid⟩)) (first ++ [.yl (.p st.h.nxt)] ++ caps))).isNone) <|
    (callY P cfg (WY P cfg f) e.base e.fid).c fid (first++[.yl (.p st.h.nxt)]++caps) (st.h.add (.lp ⟨.ready,none,st.tm,e.N,ps,assign,body,e.fid⟩)) (kontY (WY P cfg f) e Q st.tm st.h.nxt)
   | _=>False
  | _=>False
def RoOK (ro:Option Id) (ro' : Option Nat) (ν:Nu):Prop :=
 match ro,ro' with
 | none,none=>True
 | some b,some l => ∃ s n,ν.at_ b=some (l,s,n)
 | _,_=>False
def liftY (G:Nat→Option (List V)) (N:Nat) (base:Bs) (ro:Option Id) (ν0:Nu) (F0:Nat→Prop) (w0:World) (Q:Post) (e:Exit) (a:Act) (w:World):Prop :=
 ∃ ex ν F st D,exOf e ex∧StOK D G N ν F st a w∧EvoU (fun b=>b.lows base) ν0 F0 w0 ν F w∧MarksOK w0.heap.size ν F D w∧(ro≠none→D=[])∧Q ex st
def SoundY (P:Program) (G:Nat→Option (List V)) (kps:FuncId→Nat→Option (List Tmp)) (W:Env→Code→Post→St→Prop):Prop :=
 ∀ (v:Env) (ro' : Option Nat) (c:Code) (Q:Post) (st:St) (ν:Nu) (F:Nat→Prop) (a:Act) (w:World) (ν0:Nu) (F0:Nat→Prop) (w0:World) (D:List Deferred),
  W v c Q st→StOK D G v.N ν F st a w→EvoU (fun b=>b.lows v.base) ν0 F0 w0 ν F w→v.nb=ν0.nxt→RoOK v.ro ro' ν0→MarksOK w0.heap.size ν F D w→(v.ro≠none→D=[]) →
  c.wpIn (Frm ro') 0 P (liftY G v.N v.base v.ro ν0 F0 w0 Q) a w ∧ ∀ x,c = .loop x→kps v.fid v.cur=none→LoopFrom (Frm ro') 0 P x (liftY G v.N v.base v.ro ν0 F0 w0 Q) a w
def KnowsY (P:Program) (glob:Nat→Option (List V)) (known:FuncId→List V→Option V):Prop := ∀ g vs r,known g vs=some r→K0G P glob g vs fun v=>v=r
theorem low_leY {b:Id} {m n:Nat} (h:b.low m=true) (hl:m≤n):b.low n=true:=by
 cases b with
 | p a=>exact Nat.ble_eq_true_of_le (Nat.lt_of_lt_of_le (blt_of h) hl)
 | m B k=>cases h
theorem Id.lows_ges {s:Bs} {c b:Id} (hc:c.ges s=true) (hb:b.lows s=true):c.beq b=false:=by
 unfold Id.ges at hc
 unfold Id.lows at hb
 rw [Bool.and_eq_true,Bool.not_eq_true'] at hc
 rw [Bool.or_eq_true] at hb
 rcases hb with hb | hb
 ·exact Id.low_ge hc.1 hb
 ·refine Id.beq_false ?_
  rintro rfl
  rw [hb] at hc
  exact absurd hc.2 (by simp)
theorem Bs.le_low {s:Bs} {m:Nat} {b:Id} (h:s.le m=true) (hb:b.lows s=true):b.low m=true:=by
 unfold Bs.le at h
 unfold Id.lows at hb
 rw [Bool.and_eq_true] at h
 rw [Bool.or_eq_true] at hb
 rcases hb with hb | hb
 ·exact low_leY hb (Nat.le_of_ble_eq_true h.1)
 ·obtain ⟨c,hc,he⟩:=List.any_eq_true.1 hb
  have:=List.all_eq_true.1 h.2 c hc
  rw [Id.beq_iff.1 he]
  exact this
theorem lows_baseOf {cfg:Cfg} {base:Bs} {g:FuncId} {vs:List V} {h:Hp} {b:Id} (hle:base.le h.nxt=true) (hb:b.lows base=true):b.lows (cfg.baseOf base g vs h)=true:=by
 unfold Cfg.baseOf
 cases cfg.clean g with
 | true =>
  show Id.lows ⟨h.nxt,[]⟩ b=true
  unfold Id.lows
  rw [Bs.le_low hle hb]
  rfl
 | false =>
  unfold Id.lows at hb ⊢
  rw [Bool.or_eq_true] at hb ⊢
  rcases hb with hb | hb
  ·exact .inl hb
  ·exact .inr (by simp only [cond_false,List.any_append,hb,Bool.or_true])
theorem Bs.zero_low {s:Bs} {b:Id} (h:s.zero=true):b.lows s=false:=by
 obtain ⟨n,ks⟩:=s
 unfold Bs.zero at h
 rw [Bool.and_eq_true] at h
 have h1:n=0:=beq_eq h.1
 have h2:ks=[]:=List.isEmpty_iff.1 h.2
 subst h1; subst h2
 cases b with
 | p a =>
  show (Nat.blt a 0 || false)=false
  rw [Bool.or_false]
  cases hb:Nat.blt a 0 with
  | false=>rfl
  | true=>exact absurd (blt_of hb) (Nat.not_lt_zero _)
 | m B k=>rfl
theorem Bs.le_new {s:Bs} {m:Nat} (h:s.le m=true) {k:Nat} (hk:m≤k):(Id.p k).lows s=false:=by
 cases hb:(Id.p k).lows s with
 | false=>rfl
 | true =>
  have:=blt_of (Bs.le_low h hb)
  omega
theorem Bs.le_succ {s:Bs} {m n:Nat} (h:s.le m=true) (hk:m≤n):s.le n=true:=by
 unfold Bs.le at h ⊢
 rw [Bool.and_eq_true] at h ⊢
 refine ⟨Nat.ble_eq_true_of_le (Nat.le_trans (Nat.le_of_ble_eq_true h.1) hk),List.all_eq_true.2 fun c hc=>low_leY (List.all_eq_true.1 h.2 c hc) hk⟩
theorem callY_t {P:Program} {cfg:Cfg} {W:Env→Code→Post→St→Prop} {base:Bs} {fid:Nat} {g:FuncId} {vs:List V} {h:Hp} {b:Id} (he:cfg.enter g=true) (hb:b.lows base=true) (hle:base.le h.nxt=true) (hkn:isRaw (cfg.known g (frzL h vs))=true∨(lentY h vs).all (·.ges base)=true):(callY P cfg W base fid).t g vs h b=false:=by
 simp only [callY,cY,tY,yY,he,cond_true]
 split
 ·rename_i r hr
  cases hrw:rawV r with
  | true=>rfl
  | false =>
  rw [cond_false]
  rcases hkn with hk | hk
  ·rw [hr] at hk; simp only [isRaw] at hk; rw [hrw] at hk; cases hk
  ·rw [List.any_eq_false]
   intro c hc hbc
   have hcb:=Id.beq_iff.1 hbc
   subst hcb
   have h1:=List.all_eq_true.1 hk b hc
   have h2:=Id.lows_ges h1 hb
   simp at h2
 ·rw [Bool.not_eq_false']
  exact lows_baseOf hle hb
theorem askY_keeps (P:Program) (cfg:Cfg) (W:Env→Code→Post→St→Prop) (base:Bs) (fid:Nat):(askY cfg base).keeps (callY P cfg W base fid) (fun b=>b.lows base):=by
 intro ρ h o b hx hb
 have ne : ∀ c:Id,c.ges base=true→c.beq b=false:=fun c hc=>Id.lows_ges hc hb
 have mapc : ∀ m:Operand,(match ρ m with | .mp b=>b.ges base | _=>false)=true→(match ρ m with | .mp b' => b'.beq b | _=>true)=false:=fun m hm=>by
  split at hm
  ·exact ne _ hm
  ·cases hm
 cases o
 case store t x v =>
  simp only [askY] at hx
  simp only [touches]
  split at hx
  ·rename_i b' i off hxx
   simp only [hxx]
   exact ne _ hx
  ·cases hx
 case next x s =>
  simp only [askY] at hx
  simp only [touches]
  split at hx
  ·rename_i b' i off hxx
   simp only [hxx]
   exact ne _ hx
  ·cases hx
 case mapUpdate t m x v=>exact mapc m hx
 case insert t m x v=>exact mapc m hx
 case mapEntry t m x=>exact mapc m hx
 case entryStore t m x v=>exact mapc m hx
 case call c =>
  simp only [askY] at hx
  simp only [touches]
  split at hx
  ·rename_i hc
   simp only [hc]
   split at hx
   ·rename_i b' lo len r hxx
    simp only [hxx]
    exact ne _ hx
   ·rename_i y r hxx
    simp only [hxx]
   ·rename_i y r z hxx
    simp only [hxx]
   ·cases hx
  ·rename_i hc
   simp only [hc]
   split at hx
   ·rename_i b' lo len r hxx
    simp only [hxx]
    exact ne _ hx
   ·rename_i s' es' r hxx
    simp only [hxx]
   ·cases hx
  ·rename_i f hc
   simp only [hc]
   split at hx
   ·rename_i g first caps hxx
    simp only [hxx]
    rw [Bool.or_eq_true] at hx
    rcases hx with hx | hx
    ·exfalso
     have hb:b.lows base=true:=hb
     rw [Bs.zero_low hx] at hb
     cases hb
    have hkn:(callY P cfg W base fid).kn=cfg.C0.kn:=rfl
    have hmd:(callY P cfg W base fid).mode g=bif cfg.enter g then 2 else cfg.C0.mode g:=rfl
    rw [hkn,hmd]
    have fall : ∀ vs:List V,(match bif cfg.enter g then 2 else cfg.C0.mode g with | 0=>(refsL vs).all (·.ges base) | 1=>true | 4=>true | _=>cfg.enter g&&base.le h.nxt&&(isRaw (cfg.known g (frzL h vs)) || (lentY h vs).all (·.ges base)))=true →
      (match bif cfg.enter g then 2 else cfg.C0.mode g with | 0=>(refsL vs).any b.beq | 1=>false | 4=>false | _=>(callY P cfg W base fid).t g vs h b)=false:=by
     intro vs hx
     cases hen:cfg.enter g with
     | true =>
      simp only [hen,cond_true,Bool.true_and,Bool.and_eq_true,Bool.or_eq_true] at hx ⊢
      exact callY_t hen hb hx.1 hx.2
     | false =>
      simp only [hen,cond_false,Bool.false_and] at hx ⊢
      split at hx
      ·rw [List.any_eq_false]
       intro c hc hbc
       have hcb:=Id.beq_iff.1 hbc
       subst hcb
       have:=ne b (List.all_eq_true.1 hx b hc)
       simp at this
      ·rfl
      ·rfl
      ·cases hx
    revert hx
    generalize first++List.map ρ c.args.toList++caps=vs
    generalize cfg.C0.kn g=kn0
    cases kn0 with
    | none=>exact fall vs
    | some r=>cases vs with
     | nil=>exact fun _=>rfl
     | cons x t=>exact fall (x::t)
   ·rename_i b' hxx
    simp only [hxx]
    simp only [callY]
    have hb:b.lows base=true:=hb
    rw [hb]
    rfl
   ·cases hx
  ·rename_i h1 h2 h3
   split
   ·rename_i hc; exact (h1 hc).elim
   ·rename_i hc; exact (h2 hc).elim
   ·rename_i f hc; exact (h3 f hc).elim
   ·simp [hx]
 all_goals first | rfl | (simp only [askY,quietOp] at hx; simp [touches,quietOp] at hx ⊢) | (simp [touches,quietOp])
theorem start_slotY {G:Nat→Option (List V)} {ν:Nu} {F:Nat→Prop} {w:World} {vs:List V} {xs:List Value} (hG:GlobOK G F w) (hk:vs.length≤1000) (hl:repL F w ν vs xs) (n:Nat):SlotOK G F w ν (start vs) (xs.toArray++Array.replicate n undef):=by
 refine ⟨fun t v ht=>?_,hG⟩
 obtain ⟨_,h2⟩:=start_get vs 0 (by omega) t v ht
 obtain ⟨x,h3,h4⟩:=repL_get hl (t - 0) v h2
 refine ⟨x,?_,h4⟩
 simp only [Nat.sub_zero] at h3
 have hlt:=(List.getElem?_eq_some_iff.1 h3).1
 rw [Array.getElem?_append_left (by simpa using hlt)]
 simpa using h3
theorem StOK.shut {D:List Deferred} {G:Nat→Option (List V)} {N:Nat} {ν:Nu} {F:Nat→Prop} {st:St} {a:Act} {w w' : World} {S:Nat→Prop} (h:StOK D G N ν F st a w) (hs:Shut S w w') (hS : ∀ r,S r → ¬ν.own r ∧ ¬F r):StOK D G N ν F st a w' :=
 ⟨h.heap.shut hs hS,h.size,h.defers,fun t v ht=>let ⟨x,h1,h2⟩:=h.slot.1 t v ht; ⟨x,h1,rep_evoW (hs.evoW h.heap hS) v x h2⟩,fun g cs hg=>(hs.evoW h.heap hS).ri _ _ (h.slot.2 g cs hg)⟩
theorem frzDT_zero (bs:Id→Bool) (h:Hp) (b:Id):frzDT bs h 0 b = .drop:=rfl
theorem frzDT_succ (bs:Id→Bool) (h:Hp) (d:Nat) (b:Id):frzDT bs h (d+1) b=frzStep bs h (frzDT bs h d) b:=rfl
theorem frzD_cl {bs:Id→Bool} {h:Hp} : ∀ (d:Nat) (b b' : Id),frzDT bs h d b ≠ .ren b'
 | 0,b,b' => by simp [frzDT_zero]
 | d+1,.m B k,b' => by
  simp only [frzDT_succ,frzStep]
  cases bs (.m B k) with
  | false=>simp
  | true =>
   simp only [cond_true]
   split
   ·split <;> simp
   ·simp
 | d+1,.p b,b' => by
  simp only [frzDT_succ,frzStep]
  cases bs (.p b) with
  | false=>simp
  | true =>
   simp only [cond_true]
   split <;> simp
theorem frzD_ok {F F' : Nat→Prop} {w:World} {ν:Nu} {h:Hp} (hh:HeapOK ν F h w) (bs:Id→Bool) (hF : ∀ r,F r→F' r) (hF' : ∀ b r s n,bs b=true→ν.at_ b=some (r,s,n)→F' r) : ∀ d,TrOK F F' w ν nu0 (frzDT bs h d):=by
 intro d
 induction d with
 | zero=>intro b hb; simp [frzDT_zero]
 | succ d ih =>
  intro b hb
  cases b with
  | m B k =>
   simp only [frzDT_succ,frzStep]
   cases hbs:bs (.m B k) with
   | false=>simp
   | true =>
   simp only [cond_true]
   cases hf:getF h.fs B with
   | none=>simp
   | some f =>
   simp only []
   cases hm:memb f.ms k with
   | none=>simp
   | some es =>
   have hg:h.get (.m B k)=some (.rows f.s true es):=by simp [Hp.get,hf,hm]
   by_cases hph:ν.ph (.m B k)=true
   ·obtain ⟨s,p,hes⟩ : ∃ s p,O.rows f.s true es = .rows s p []:=by
     rcases hh.dom _ _ hg with ⟨x,hx⟩ | ⟨_,h⟩
     ·have:=ν.phx _ x hx; rw [hph] at this; cases this
     ·exact h
    cases hes
    simp [hph]
   obtain ⟨⟨r,s', n⟩,hat⟩:=hh.domP _ _ hg (by simpa using hph)
   obtain ⟨rfl,g2,_⟩:=hh.blkR hg hat
   have hrw:=rowsW_own hh hg hat
   refine .inr ⟨r,by rw [g2]; exact hat,hF' _ _ _ _ hbs hat,fun i row hrow=>?_⟩
   obtain ⟨k1,k2⟩:=hrw i row hrow
   refine ⟨k1,fun j v hj=>?_⟩
   obtain ⟨x,k3,k4,k5⟩:=k2 j v hj
   exact ⟨x,k3,k4,ri_mono hF (fun _ _=>rfl) v x k5⟩
  | p b =>
  simp only [frzDT_succ,frzStep]
  cases hbs:bs (.p b) with
  | false=>simp
  | true =>
  simp only [cond_true]
  cases hg:h.get (.p b) with
  | none =>
   have hg' : getB h.bs b=none:=hg
   simp [hg']
  | some o =>
   have hg' : getB h.bs b=some o:=hg
   by_cases hph:ν.ph (.p b)=true
   ·obtain ⟨s,p,rfl⟩ : ∃ s p,o = .rows s p []:=by
     rcases hh.dom _ o hg with ⟨x,hx⟩ | ⟨_,h⟩
     ·have:=ν.phx _ x hx; rw [hph] at this; cases this
     ·exact h
    cases p <;> simp [hg', hph]
   obtain ⟨⟨r,s', n⟩,hat⟩:=hh.domP _ o hg (by simpa using hph)
   cases o with
   | mp es =>
    simp only [hg']
    obtain ⟨r2,s2,n2,ents,g1,g2,g3⟩:=hh.blkM hg
    refine ⟨r2,s2,n2,ents,g1,hF' _ _ _ _ hbs g1,g2,fun hcl=>⟨g3.1,fun i kv hi=>?_⟩⟩
    obtain ⟨e,k1,k2,k3,k4⟩:=g3.2 i kv hi
    have hc:=List.all_eq_true.1 hcl kv (List.mem_of_getElem? hi)
    rw [Bool.and_eq_true] at hc
    exact ⟨e,k1,k2,ri_mono hF (fun _ _=>rfl) _ _ (rep_ri _ _ hc.1 k3),ri_mono hF (fun _ _=>rfl) _ _ (rep_ri _ _ hc.2 k4)⟩
   | lp q=>simp [hg']
   | it x n seen=>simp [hg']
   | rows s p es =>
   obtain ⟨rfl,g2,_⟩:=hh.blkR hg hat
   have hrw:=rowsW_own hh hg hat
   cases p with
   | true =>
    simp only [hg']
    refine .inr ⟨r,by rw [g2]; exact hat,hF' _ _ _ _ hbs hat,fun i row hrow=>?_⟩
    obtain ⟨k1,k2⟩:=hrw i row hrow
    refine ⟨k1,fun j v hj=>?_⟩
    obtain ⟨x,k3,k4,k5⟩:=k2 j v hj
    exact ⟨x,k3,k4,ri_mono hF (fun _ _=>rfl) v x k5⟩
   | false =>
    simp only [hg']
    refine .inr ⟨r,by rw [List.length_map,g2]; exact hat,hF' _ _ _ _ hbs hat,fun i row hrow=>?_⟩
    rw [List.getElem?_map,Option.map_eq_some_iff] at hrow
    obtain ⟨row0,hrow0,rfl⟩:=hrow
    obtain ⟨k1,k2⟩:=hrw i row0 hrow0
    refine ⟨by rw [trL_length]; exact k1,fun j v hj=>?_⟩
    rw [trL_get,Option.map_eq_some_iff] at hj
    obtain ⟨v0,hv0,rfl⟩:=hj
    obtain ⟨x,k3,k4,k5⟩:=k2 j v0 hv0
    exact ⟨x,k3,k4,rep_ri _ x (tr_closed (frzD_cl d) v0) (rep_tr hF ih v0 x k5)⟩
theorem frzW_sound {F:Nat→Prop} {w:World} {ν:Nu} {h:Hp} (hk:HeapOK ν F h w) {v:V} {x:Value} (hr:rep F w ν v x) :
  ∃ F', ri F' w (frzW h v) x∧(∀ r,F r→F' r)∧(∀ r,F' r→F r ∨ ∃ b s n,ν.at_ b=some (r,s,n)) :=
 ⟨fun r=>F r∨ν.own r,rep_ri _ x (tr_closed (frzD_cl 6) v) (rep_tr (fun r h => .inl h) (frzD_ok hk _ (fun r h => .inl h) (fun b r s n _ hat => .inr ⟨b,s,n,hat⟩) 6) v x hr),fun r h => .inl h,fun r h=>h⟩
mutual
theorem closed_of_ref : ∀ (v:V),v.refs=[]→v.closed=true
 | .raw _,_=>rfl
 | .ptr _ _ _,h=>by simp [V.refs] at h
 | .sl _ _ _,h=>by simp [V.refs] at h
 | .sla _ _ _ _,h=>by simp [V.refs] at h
 | .mp _,h=>by simp [V.refs] at h
 | .yl _,h=>by simp [V.refs] at h
 | .lst _ _,_=>rfl
 | .lsx _ _,_=>rfl
 | .adr _ _,_=>rfl
 | .fmp _,_=>rfl
 | .agg cs,h=>by simp only [V.refs] at h; simp only [V.closed]; exact closed_of_refs cs h
 | .tup cs,h=>by simp only [V.refs] at h; simp only [V.closed]; exact closed_of_refs cs h
 | .fn _ a c,h=>by simp only [V.refs,List.append_eq_nil_iff] at h; simp only [V.closed,Bool.and_eq_true]; exact ⟨closed_of_refs a h.1,closed_of_refs c h.2⟩
 | .junk,_=>rfl
theorem closed_of_refs : ∀ (vs:List V),refsL vs=[]→closedL vs=true
 | [],_=>rfl
 | v::vs,h=>by
  simp only [refsL,List.append_eq_nil_iff] at h
  simp only [closedL,Bool.and_eq_true]
  exact ⟨closed_of_ref v h.1,closed_of_refs vs h.2⟩
end
theorem riL_F {F F' : Nat→Prop} {w:World} (hF : ∀ r,F r→F' r) {vs:List V} {xs:List Value} (h:riL F w vs xs):riL F' w vs xs:=riL_mono hF (fun _ _=>rfl) vs xs h
theorem knownK {P:Program} {glob:Nat→Option (List V)} {known:FuncId→List V→Option V} (hkn:KnowsY P glob known) {g:FuncId} {vs:List V} {r:V} {h:Hp} (hr:known g (frzL h vs)=some r) {R:V→Hp→Prop} (hR:R r (delAll h (lentY h vs))):K P glob g vs h (fun b=>(lentY h vs).any b.beq) R:=by
 intro ν F w xs hh hG hl
 obtain ⟨ν', h1,h2,h3,h4⟩:=heap_delAll (lentY h vs) hh
 let F' : Nat→Prop:=fun r=>F r ∨ ∃ b s n,b∈lentY h vs∧ν.at_ b=some (r,s,n)
 have own_lt : ∀ r,ν.own r→r<w.heap.size:=fun r ho=>hh.own_lt ho
 have hF' : HeapOK ν' F' (delAll h (lentY h vs)) w:=heap_F h1 (fun r hr => .inl hr) (fun r hr=>by
  rcases hr with hr | ⟨b,s,n,hm,hat⟩
  ·exact h1.frz r hr
  ·refine ⟨own_lt r ⟨b,s,n,hat⟩,fun ⟨b', s', n', hb'⟩=>?_⟩
   obtain ⟨h5,h6⟩:=h3 b' _ hb'
   exact h6 (hh.inj b' b r s' n' s n h5 hat ▸ hm))
 have e:Evo ν F w ν' F' w:={ h2 with
  fmono:=fun r hr => .inl hr
  fnew:=fun r hr=>hr.elim .inl (fun ⟨b,s,n,_,hat⟩ => .inr (.inl ⟨b,s,n,hat⟩)) }
 have hl' : riL F' w (frzL h vs) xs:=by
  have ht:TrOK F F' w ν nu0 (frzDT (fun b=>(lentY h vs).any b.beq) h 6):=frzD_ok hh _ (fun r hr => .inl hr) (fun b r s n hm hat=>by
   obtain ⟨c,hc,he⟩:=List.any_eq_true.1 hm
   exact .inr ⟨b,s,n,Id.beq_iff.1 he ▸ hc,hat⟩) 6
  have:=repL_riL _ _ (trL_closed (frzD_cl 6) vs) (repL_tr (fun r h => .inl h) ht _ _ hl)
  unfold frzL
  split
  ·rename_i hnil
   exact riL_F (fun r h => .inl h) (repL_riL _ _ (closed_of_refs vs hnil) hl)
  ·exact this
 have hG' : GlobOK glob F' w:=fun g cs hg=>ri_mono (fun r h => .inl h) (fun _ _=>rfl) _ _ (hG g cs hg)
 refine (hkn g _ r hr F' w xs (fun r hr=>(hF'.frz r hr).1) hG' hl').mono fun e' w' he=>?_
 obtain ⟨x,v,F'', rfl,rfl,hv,hbl,q1,q2,q3⟩:=he
 obtain ⟨hh', he⟩:=heap_call0 hF' hbl q1 q2 q3
 refine ⟨x,v,ν', F'', _,rfl,hR,hh', ri_rep (ν:=ν') _ _ hv,e.trans he,fun b y hy hb=>⟨hbl.block _ ?_,h4 b y hy ?_⟩⟩
 ·obtain ⟨r,s,n⟩:=y
  exact own_lt r ⟨b,s,n,hy⟩
 ·intro hm
  rw [List.any_eq_false] at hb
  have:=hb b hm
  simp at this
mutual
theorem rawV_ri {F F2:Nat→Prop} {w w2:World} {ν:Nu} : ∀ (v:V) (x:Value),rawV v=true→ri F w v x→rep F2 w2 ν v x
 | .raw v,x,_,h=>by simp only [ri,rep] at h ⊢; exact h
 | .agg cs,x,hc,h=>by
  simp only [ri,rep,rawV] at h hc ⊢
  obtain ⟨vs,h1,h2⟩:=h
  exact ⟨vs,h1,rawL_ri cs _ hc h2⟩
 | .tup cs,x,hc,h=>by
  simp only [ri,rep,rawV] at h hc ⊢
  obtain ⟨vs,h1,h2⟩:=h
  exact ⟨vs,h1,rawL_ri cs _ hc h2⟩
 | .ptr _ _ _,_,hc,_=>by simp [rawV] at hc
 | .sl _ _ _,_,hc,_=>by simp [rawV] at hc
 | .sla _ _ _ _,_,hc,_=>by simp [rawV] at hc
 | .mp _,_,hc,_=>by simp [rawV] at hc
 | .yl _,_,hc,_=>by simp [rawV] at hc
 | .lst _ _,_,hc,_=>by simp [rawV] at hc
 | .lsx _ _,_,hc,_=>by simp [rawV] at hc
 | .adr _ _,_,hc,_=>by simp [rawV] at hc
 | .fn _ _ _,_,hc,_=>by simp [rawV] at hc
 | .junk,_,hc,_=>by simp [rawV] at hc
theorem rawL_ri {F F2:Nat→Prop} {w w2:World} {ν:Nu} : ∀ (vs:List V) (xs:List Value),rawL vs=true→riL F w vs xs→repL F2 w2 ν vs xs
 | [],xs,_,h=>by simp only [riL,repL] at h ⊢; exact h
 | v::vs,xs,hc,h=>by
  simp only [riL,repL,rawL,Bool.and_eq_true] at h hc ⊢
  obtain ⟨x,ys,h1,h2,h3⟩:=h
  exact ⟨x,ys,h1,rawV_ri v x hc.1 h2,rawL_ri vs ys hc.2 h3⟩
end
theorem knownRaw {P:Program} {glob:Nat→Option (List V)} {known:FuncId→List V→Option V} (hkn:KnowsY P glob known) {g:FuncId} {vs:List V} {r:V} {h:Hp} (hr:known g (frzL h vs)=some r) (hw:rawV r=true) {R:V→Hp→Prop} (hR:R r h):K P glob g vs h (fun _=>false) R:=by
 intro ν F w xs hh hG hl
 obtain ⟨ν', h1,h2,h3,h4⟩:=heap_delAll (lentY h vs) hh
 let F' : Nat→Prop:=fun r=>F r ∨ ∃ b s n,b∈lentY h vs∧ν.at_ b=some (r,s,n)
 have own_lt : ∀ r,ν.own r→r<w.heap.size:=fun r ho=>hh.own_lt ho
 have hF' : HeapOK ν' F' (delAll h (lentY h vs)) w:=heap_F h1 (fun r hr => .inl hr) (fun r hr=>by
  rcases hr with hr | ⟨b,s,n,hm,hat⟩
  ·exact h1.frz r hr
  ·refine ⟨own_lt r ⟨b,s,n,hat⟩,fun ⟨b', s', n', hb'⟩=>?_⟩
   obtain ⟨h5,h6⟩:=h3 b' _ hb'
   exact h6 (hh.inj b' b r s' n' s n h5 hat ▸ hm))
 have hl' : riL F' w (frzL h vs) xs:=by
  have ht:TrOK F F' w ν nu0 (frzDT (fun b=>(lentY h vs).any b.beq) h 6):=frzD_ok hh _ (fun r hr => .inl hr) (fun b r s n hm hat=>by
   obtain ⟨c,hc,he⟩:=List.any_eq_true.1 hm
   exact .inr ⟨b,s,n,Id.beq_iff.1 he ▸ hc,hat⟩) 6
  have:=repL_riL _ _ (trL_closed (frzD_cl 6) vs) (repL_tr (fun r h => .inl h) ht _ _ hl)
  unfold frzL
  split
  ·rename_i hnil
   exact riL_F (fun r h => .inl h) (repL_riL _ _ (closed_of_refs vs hnil) hl)
  ·exact this
 have hG' : GlobOK glob F' w:=fun g cs hg=>ri_mono (fun r h => .inl h) (fun _ _=>rfl) _ _ (hG g cs hg)
 refine (hkn g _ r hr F' w xs (fun r hr=>(hF'.frz r hr).1) hG' hl').mono fun e' w' he=>?_
 obtain ⟨x,v,F'', rfl,rfl,hv,hbl,q1,q2,q3⟩:=he
 have hlt : ∀ r,F r→r<w'.heap.size:=fun r hr=>Nat.lt_of_lt_of_le (hh.frz r hr).1 hbl.size
 obtain ⟨hh', he⟩:=heap_call0 hh hbl (fun r hr=>hr) (fun r hr => .inl hr) hlt
 refine ⟨x,v,ν,F,_,rfl,hR,hh', rawV_ri _ _ hw hv,he,fun b y hy _=>⟨hbl.block _ ?_,hy⟩⟩
 obtain ⟨r,s,n⟩:=y
 exact own_lt r ⟨b,s,n,hy⟩
def deadB (n:Nat) (live:List Id):List (Nat×O)→List Id
 | []=>[]
 | (a,_)::r=>bif Nat.blt a n || live.any (Id.beq (.p a)) then deadB n live r else .p a::deadB n live r
theorem deadB_iff {n:Nat} {live:List Id} : ∀ {l:List (Nat×O)} {b:Id},b∈deadB n live l ↔ ∃ a o,b = .p a∧(a,o)∈l∧(Nat.blt a n || live.any (Id.beq (.p a)))=false
 | [],b=>by simp [deadB]
 | (a,o)::r,b=>by
  simp only [deadB]
  cases hc:(Nat.blt a n || live.any (Id.beq (.p a))) with
  | true =>
   rw [cond_true,deadB_iff]
   constructor
   ·rintro ⟨a', o', h1,h2,h3⟩; exact ⟨a', o', h1,by simp [h2],h3⟩
   ·rintro ⟨a', o', h1,h2,h3⟩
    rcases List.mem_cons.1 h2 with he | he
    ·cases he; rw [hc] at h3; cases h3
    ·exact ⟨a', o', h1,he,h3⟩
  | false =>
   rw [cond_false,List.mem_cons,deadB_iff]
   constructor
   ·rintro (h | ⟨a', o', h1,h2,h3⟩)
    ·exact ⟨a,o,h,by simp,hc⟩
    ·exact ⟨a', o', h1,by simp [h2],h3⟩
   ·rintro ⟨a', o', h1,h2,h3⟩
    rcases List.mem_cons.1 h2 with he | he
    ·cases he; exact .inl h1
    ·exact .inr ⟨a', o', h1,he,h3⟩
theorem getB_gcB {n:Nat} {live:List Id} : ∀ (l:List (Nat×O)) (b:Nat),getB (gcB n live l) b=if (Nat.blt b n || live.any (Id.beq (.p b)))=true then getB l b else none
 | [],b=>by simp [gcB,getB]
 | (a,o)::r,b=>by
  simp only [gcB]
  by_cases hab:a=b
  ·subst hab
   cases hc:(Nat.blt a n || live.any (Id.beq (.p a))) with
   | true=>rw [cond_true,getB_cons,if_pos rfl,if_pos rfl,getB_cons,if_pos rfl]
   | false =>
    rw [cond_false,getB_gcB r a,hc]
    simp
  ·rw [getB_cons,if_neg hab,← getB_gcB r b]
   cases (Nat.blt a n || live.any (Id.beq (.p a))) with
   | true=>rw [cond_true,getB_cons,if_neg hab]
   | false=>rw [cond_false]
theorem getB_mem : ∀ {l:List (Nat×O)} {b:Nat} {o:O},getB l b=some o→(b,o)∈l
 | (a,o')::r,b,o,h=>by
  rw [getB_cons] at h
  by_cases hab:a=b
  ·rw [if_pos hab] at h; cases h; simp [hab]
  ·rw [if_neg hab] at h; simp [getB_mem h]
theorem heap_congrY {ν:Nu} {F:Nat→Prop} {h h' : Hp} {w:World} (hk:HeapOK ν F h w) (hg : ∀ b,h'.get b=h.get b) (hn:h'.nxt=h.nxt) (hf:h'.fs=h.fs):HeapOK ν F h' w :=
 ⟨fun b r s n hat=>by rw [hg]; exact hk.blk b r s n hat,fun b o hb=>hk.dom b o (by rw [← hg]; exact hb),hk.inj,hk.frz,hk.nxt.trans hn.symm,fun B=>by rw [hf]; exact hk.cnt B⟩
theorem delAll_same : ∀ (l:List Id) (h:Hp),(∀ b∈l, ∃ a,b = .p a)→(delAll h l).nxt=h.nxt∧(delAll h l).fs=h.fs ∧ ∀ b,(delAll h l).get b=if b∈l then none else h.get b
 | [],h,_=>⟨rfl,rfl,fun b=>by simp [delAll]⟩
 | b0::r,h,hl=>by
  obtain ⟨a,rfl⟩:=hl b0 (by simp)
  obtain ⟨h1,h2,h3⟩:=delAll_same r (h.del (.p a)) (fun b hb=>hl b (by simp [hb]))
  refine ⟨h1,h2,fun b=>?_⟩
  simp only [delAll]
  rw [h3,Hp.get_del]
  by_cases hr:b∈r
  ·simp [hr]
  ·by_cases hb:b = .p a
   ·simp [hb]
   ·simp [hr,hb]
theorem heap_gc {ν:Nu} {F:Nat→Prop} {h:Hp} {w:World} (hk:HeapOK ν F h w) (n:Nat) (v:V) : ∃ ν', HeapOK ν' F (gcH n v h) w∧Evo ν F w ν' F w ∧ ∀ b y,b.low n=true→ν.at_ b=some y→ν'.at_ b=some y:=by
 obtain ⟨ν', h1,h2,_,h4⟩:=heap_delAll (deadB n (reachA 2000 h v.refs []) h.bs) hk
 have hp : ∀ b∈deadB n (reachA 2000 h v.refs []) h.bs, ∃ a,b = .p a:=fun b hb=>let ⟨a,o,e,_⟩:=deadB_iff.1 hb; ⟨a,e⟩
 obtain ⟨g1,g2,g3⟩:=delAll_same _ h hp
 refine ⟨ν', heap_congrY h1 (fun b=>?_) g1.symm g2.symm,h2,fun b y hb hy=>h4 b y hy fun hm=>?_⟩
 ·rw [g3]
  cases b with
  | m B k =>
   rw [if_neg (fun hm=>by obtain ⟨a,e⟩:=hp _ hm; cases e)]
   rfl
  | p b =>
   show getB (gcB n (reachA 2000 h v.refs []) h.bs) b=_
   rw [getB_gcB]
   cases hc:(Nat.blt b n || (reachA 2000 h v.refs []).any (Id.beq (.p b))) with
   | true =>
    rw [if_pos rfl,if_neg (fun hm=>by obtain ⟨a,o,e,_,e3⟩:=deadB_iff.1 hm; cases e; rw [hc] at e3; cases e3)]
    rfl
   | false =>
    rw [if_neg (by simp)]
    cases hg:h.get (.p b) with
    | none=>simp
    | some o=>rw [if_pos (deadB_iff.2 ⟨b,o,rfl,getB_mem hg,hc⟩)]
 ·obtain ⟨a,o,rfl,_,e3⟩:=deadB_iff.1 hm
  have:Nat.blt a n=true:=hb
  rw [this] at e3
  cases e3
structure Cfg.ok (P:Program) (cfg:Cfg):Prop where
 c0:cfg.C0.ok P
 known:KnowsY P cfg.glob cfg.known
theorem callY_ok {P:Program} {cfg:Cfg} (hcf:cfg.ok P) {W:Env→Code→Post→St→Prop} {kps:FuncId→Nat→Option (List Tmp)} (hW:SoundY P cfg.glob kps W) (base:Bs) (fid:Nat):(callY P cfg W base fid).ok P:=by
 obtain ⟨hC0,hkn⟩:=hcf
 refine ⟨hC0.kn,hC0.cf,hC0.cb,hC0.ct,hC0.mono,hC0.c0,?_,?_⟩
 ·intro g vs h R hc
  cases hen:cfg.enter g with
  | false =>
   have hc:cfg.C0.c g vs h R:=by simpa only [callY,cY,tY,yY,hen,cond_false] using hc
   have ht:(callY P cfg W base fid).t g vs h=cfg.C0.t g vs h:=by funext b; simp only [callY,cY,tY,yY,hen,cond_false]
   rw [ht]
   exact hC0.c g vs h R hc
  | true =>
  cases hr:cfg.known g (frzL h vs) with
  | some r =>
   have hc:R r (bif rawV r then h else delAll h (lentY h vs)):=by simpa only [callY,cY,tY,yY,hen,hr,cond_true] using hc
   have ht:(callY P cfg W base fid).t g vs h=fun b=>bif rawV r then false else (lentY h vs).any b.beq:=by funext b; simp only [callY,cY,tY,yY,hen,hr,cond_true]
   rw [ht]
   cases hrw:rawV r with
   | true=>rw [hrw,cond_true] at hc; exact knownRaw hkn hr hrw hc
   | false=>rw [hrw,cond_false] at hc; exact knownK hkn hr hc
  | none =>
  have ht:(callY P cfg W base fid).t g vs h=fun b => !b.lows (cfg.baseOf base g vs h):=by funext b; simp only [callY,cY,tY,yY,hen,hr,cond_true]
  rw [ht]
  simp only [callY,cY,tY,yY,hen,hr,cond_true] at hc
  intro ν F w xs hh hG hl
  simp only [onSome_iff,guardB_iff,Bool.and_eq_true] at hc
  obtain ⟨fn,hf,c,hb,⟨hn,hk⟩,hc⟩:=hc
  have hn:=Nat.le_of_ble_eq_true hn
  have hk:=Nat.le_of_ble_eq_true hk
  have hlen:=repL_length hl
  have hst:StOK [] cfg.glob fn.ntmps ν F ⟨start vs,h⟩ { tmps:=xs.toArray++Array.replicate (fn.ntmps - xs.toArray.size) undef,defers:=[] } w:=⟨hh,by simp; omega,rfl,start_slotY hG hk hl _⟩
  refine calls_marks hf hb (hW _ none _ _ _ ν F _ w ν F w [] hc hst (EvoU.refl _ _ _ _) hh.nxt.symm trivial .nil (fun h=>rfl)).1 ?_
  rintro e a' w' ⟨ex,ν', F', st', D,h1,h2,h3,h4,_,h5⟩
  have hD : ∀ d∈a'.defers, ∃ r,d={ target := .collected r,args := #[] }∧w'.heap[r]? = some (.deferred (some [])):=by
   rw [h2.defers]
   exact fun d hd=>let ⟨r,q1,q2,_⟩:=h4.each d hd; ⟨r,q1,q2⟩
  have hap:a'.defers.Pairwise fun d d' => d.target≠d'.target:=by rw [h2.defers]; exact h4.apart
  have hS : ∀ r,ofMarks a'.defers r→(¬ν'.own r ∧ ¬F' r)∧w.heap.size≤r:=by
   rintro r ⟨d,hd,ht⟩
   rw [h2.defers] at hd
   obtain ⟨r', q1,_,q3,q4,q5⟩:=h4.each d hd
   rw [q1] at ht
   cases ht
   exact ⟨⟨q3,q4⟩,q5⟩
  have done:(wRes P fn.results st' fun v=>R v (bif cfg.clean g then gcH h.nxt v st'.h else st'.h)) → ∀ wE,Shut (ofMarks a'.defers) w' wE → ∃ v,(results fn a'.tmps).run P wE = .ok v wE ∧ ∃ x v' ν' F' h', Ending.returned v=Ending.returned x∧R v' h' ∧ HeapOK ν' F' h' wE∧rep F' wE ν' v' x∧Evo ν F w ν' F' wE ∧
    ∀ b y,ν.at_ b=some y→(!b.lows (cfg.baseOf base g vs h))=false→wE.heap[y.1]? = w.heap[y.1]? ∧ ν'.at_ b=some y:=by
   intro h5 wE hs
   have h2' := h2.shut hs fun r hr=>(hS r hr).1
   obtain ⟨x,v,g1,g2,g3⟩:=res_sound h2' h5
   have h3' := h3.1.shut hs fun r hr=>⟨(hS r hr).1.1,(hS r hr).2⟩
   have h4' : ∀ b y,ν.at_ b=some y→(!b.lows (cfg.baseOf base g vs h))=false→wE.heap[y.1]? = w.heap[y.1]? ∧ ν'.at_ b=some y:=fun b y hy hb=>by
    obtain ⟨e1,e2⟩:=h3.2 b y hy (by simpa using hb)
    refine ⟨?_,e2⟩
    rw [hs.same _ fun hm=>(hS _ hm).1.1 ⟨b,_,_,e2⟩]
    exact e1
   cases hcl:cfg.clean g with
   | false =>
    rw [hcl] at g1
    exact ⟨x,g3,x,v,ν', F', st'.h,rfl,g1,h2'.heap,g2,h3', h4'⟩
   | true =>
    rw [hcl] at g1
    have hbo:cfg.baseOf base g vs h=⟨h.nxt,[]⟩:=by unfold Cfg.baseOf; rw [hcl]; rfl
    obtain ⟨ν2,k1,k2,k3⟩:=heap_gc h2'.heap h.nxt v
    refine ⟨x,g3,x,v,ν2,F', _,rfl,g1,k1,rep_evo h2'.heap k2 v x g2,h3'.trans k2,fun b y hy hb=>?_⟩
    obtain ⟨e1,e2⟩:=h4' b y hy hb
    exact ⟨e1,k3 b y (by rw [hbo] at hb; simpa [Id.lows] using hb) e2⟩
  cases e <;> cases ex <;> simp only [exOf] at h1
  case normal.norm=>exact ⟨.inl rfl,hD,hap,done h5⟩
  case ret.ret=>exact ⟨.inr rfl,hD,hap,done h5⟩
  case exit.exit i j=>exact h5.elim
 ·intro b vs h R hc
  simp only [callY,cY,tY,yY,guardB_iff,onLp_iff] at hc
  obtain ⟨hbase,n,q,rfl,hq,hc⟩:=hc
  intro ν F w xs hh hG hl
  obtain ⟨l,s,m,rec,hat,hrec,hlr⟩:=lp_at hh hq
  have hslot0:SlotOK cfg.glob F w ν q.tm rec.tmps:=⟨hlr.slot,hG⟩
  obtain ⟨tm,hc,hslot,hsize,hlen⟩:=putL_ok _ _ _ _ _ _ hslot0 hlr.size hl hc
  have hps:xs.toArray.size=rec.params.size:=by rw [hlr.ps]; simp [← hlen]
  have hfold:(rec.params.zip xs.toArray).foldl (fun tmps (p:Tmp×Value)=>tmps.setIfInBounds p.1 p.2) rec.tmps=(q.ps.toList.zip xs).foldl (fun t (p:Tmp×Value)=>t.setIfInBounds p.1 p.2) rec.tmps:=by
   rw [← Array.foldl_toList,Array.toList_zip,hlr.ps]
  refine ⟨l,s,m,rec.fn,_,rec.assign,rec.body,hat,run_yield hrec hps,roundIn_of_wpIn (F:=Frm none) trivial ?_⟩
  have low : ∀ (b' : Id),b'.lows base=true→b' ≠ .p n:=fun b' hb' he=>by
   subst he
   have:=Id.lows_ges hbase hb'
   simp at this
  have setL : ∀ {ν1:Nu} {F1:Nat→Prop} {w1:World} {st1:St} {rec1:Loop} (q' : Lr) (rec' : Loop),EvoU (fun b=>b.lows base) ν F w ν1 F1 w1→HeapOK ν1 F1 st1.h w1→ν1.at_ (.p n)=some (l,s,m)→w1.heap[l]? = some (.loop rec1)→lrOK (rep F1 w1 ν1) q' rec' →
    HeapOK ν1 F1 (st1.h.put (.p n) (.lp q')) (w1.putObj l (.loop rec'))∧Evo ν1 F1 w1 ν1 F1 (w1.putObj l (.loop rec'))∧EvoU (fun b=>b.lows base) ν F w ν1 F1 (w1.putObj l (.loop rec')):=by
   intro ν1 F1 w1 st1 rec1 q' rec' he1 hh1 hat1 hrec1 hlr1
   obtain ⟨k1,k2⟩:=heap_setL (rec' := rec') hh1 hat1 hrec1 hlr1
   refine ⟨k1,k2,he1.trans ⟨k2,fun b' y hy hb' => ⟨?_,hy⟩⟩⟩
   refine World.putObj_heap_other fun he=>low b' hb' ?_
   obtain ⟨r,s', m'⟩:=y
   simp only at he
   subst he
   exact hh1.inj _ _ _ _ _ _ _ hy hat1
  have lpAt : ∀ {ν1:Nu} {F1:Nat→Prop} {w1:World} {h1:Hp} {q1:Lr},EvoU (fun b=>b.lows base) ν F w ν1 F1 w1→HeapOK ν1 F1 h1 w1→h1.get (.p n)=some (.lp q1)→ν1.at_ (.p n)=some (l,s,m) ∧ ∃ rec1,w1.heap[l]? = some (.loop rec1)∧lrOK (rep F1 w1 ν1) q1 rec1:=by
   intro ν1 F1 w1 h1 q1 he1 hh1 hg1
   obtain ⟨l1,s1,m1,rec1,hat1,hrec1,hlr1⟩:=lp_at hh1 hg1
   have:=he1.1.keep _ _ (ν.lt _ _ hat) hat1
   rw [hat] at this
   cases this
   exact ⟨hat1,rec1,hrec1,hlr1⟩
  have hst:StOK [] cfg.glob q.N ν F ⟨tm,h⟩ { tmps:=(rec.params.zip xs.toArray).foldl (fun tmps (p:Tmp×Value)=>tmps.setIfInBounds p.1 p.2) rec.tmps,defers:=[] } w :=
   ⟨hh,by rw [hfold]; exact hsize,rfl,by rw [hfold]; exact hslot⟩
  have hro:RoOK (some (.p n)) (some l) ν:=⟨s,m,hat⟩
  have ha:=(hW ⟨base,h.nxt,some (.p n),q.N,q.fid,0⟩ (some l) q.assign _ ⟨tm,h⟩ ν F _ w ν F w [] hc hst (EvoU.refl _ _ _ _) hh.nxt.symm hro .nil (fun _=>rfl)).1
  rw [hlr.assign,hlr.body]
  refine wpIn_mono ha ?_
  rintro e a1 w1 ⟨ex,ν1,F1,st1,D1,e1,e2,e3,e4,e5,e6⟩
  obtain rfl:=e5 (by simp)
  cases e <;> cases ex <;> simp only [exOf] at e1 <;> try exact e6.elim
  case normal.norm =>
   simp only [Qassign,onLp_iff] at e6
   obtain ⟨n', q1,hn', hq1,e6⟩:=e6
   cases hn'
   obtain ⟨hat1,rec1,hrec1,hlr1⟩:=lpAt e3 e2.heap hq1
   split at e6
   ·rename_i hready
    obtain ⟨k1,k2,k3⟩:=setL (st1:=st1) (q1.go .busy q1.pending) { rec1 with state := .busy } e3 e2.heap hat1 hrec1 ⟨rfl,hlr1.pending,hlr1.size,hlr1.ps,hlr1.assign,hlr1.body,hlr1.slot⟩
    refine ⟨_,run_beginRound hrec1 (hlr1.state.trans hready),?_⟩
    have hst2:StOK [] cfg.glob q.N ν1 F1 ⟨st1.tm,st1.h.put (.p n) (.lp (q1.go .busy q1.pending))⟩ a1 (w1.putObj l (.loop { rec1 with state := .busy })):=⟨k1,e2.size,e2.defers,e2.slot.evo e2.heap k2⟩
    refine wpIn_mono (hW ⟨base,h.nxt,some (.p n),q.N,q.fid,0⟩ (some l) q.body _ _ ν1 F1 a1 _ ν F w [] e6 hst2 k3 hh.nxt.symm hro .nil (fun _=>rfl)).1 ?_
    rintro e a2 w2 ⟨ex,ν2,F2,st2,D2,f1,f2,f3,f4,f5,f6⟩
    simp only [Qround,onLp_iff] at f6
    obtain ⟨n', q2,hn', hq2,f6⟩:=f6
    cases hn'
    obtain ⟨hat2,rec2,hrec2,hlr2⟩:=lpAt f3 f2.heap hq2
    have fin : ∀ (jump:Option Code) (st:LoopState),(if jump.isNone then LoopState.ready else .done)=st→R (.raw (.bool jump.isNone)) (st2.h.put (.p n) (.lp (q2.go st jump))) →
      ∃ v w', (Instr.endRound l jump).run P w2 = .ok v w' ∧ ∃ x v' ν' F' h', Ending.returned v=Ending.returned x∧R v' h' ∧ HeapOK ν' F' h' w' ∧ rep F' w' ν' v' x∧Evo ν F w ν' F' w' ∧ ∀ b y,ν.at_ b=some y→(!b.lows base)=false→w'.heap[y.1]? = w.heap[y.1]? ∧ ν'.at_ b=some y:=by
     intro jump st hst' hR
     subst hst'
     obtain ⟨k1,k2,k3⟩:=setL (st1:=st2) (q2.go (if jump.isNone then LoopState.ready else .done) jump) { rec2 with state:=if jump.isNone then .ready else .done,pending:=jump } f3 f2.heap hat2 hrec2 ⟨rfl,rfl,hlr2.size,hlr2.ps,hlr2.assign,hlr2.body,hlr2.slot⟩
     exact ⟨_,_,run_endRound jump hrec2,_,_,ν2,F2,_,rfl,hR,k1,by simp only [rep],k3.1,fun b y hy hb=>k3.2 b y hy (by simpa using hb)⟩
    cases e <;> cases ex <;> simp only [exOf] at f1
    case normal.norm=>exact fin none _ rfl f6
    case ret.ret=>exact fin (some .ret) _ rfl f6
    case exit.exit i j=>subst f1; exact fin (some (.exit i)) _ rfl f6
   ·exact e6.elim
theorem delB_idem (n:Nat) : ∀ (l:List (Nat×O)),delB (delB l n) n=delB l n
 | []=>rfl
 | (k,o)::r=>by
  rw [delB_cons]
  by_cases h:k=n
  ·rw [if_pos h]; exact delB_idem n r
  ·rw [if_neg h,delB_cons,if_neg h,delB_idem n r]
theorem put_del (h:Hp) (n:Nat) (o:O):(h.put (.p n) o).del (.p n)=h.del (.p n):=by
 show (⟨delB ((n,o)::delB h.bs n) n,h.nxt,h.fs⟩:Hp)=⟨delB h.bs n,h.nxt,h.fs⟩
 rw [delB_cons,if_pos rfl,delB_idem]
theorem EvoU.low_new {base:Bs} {ν:Nu} {F:Nat→Prop} {h:Hp} {w:World} (hk:HeapOK ν F h w) {o:Obj} (e:Evo ν F w (ν.add w.heap.size 0 0) F (w.alloc o)):EvoU (fun b=>b.lows base) ν F w (ν.add w.heap.size 0 0) F (w.alloc o):=by
 refine ⟨e,fun b y hy _=>?_⟩
 obtain ⟨r,s,n⟩:=y
 have hlt:=hk.at_lt hy
 refine ⟨push_old (w' := w.alloc o) rfl hlt,?_⟩
 simp only [Nu.add]
 rw [if_neg (Id.ne_new (ν.lt _ _ hy))]
 exact hy
theorem auto_sound1 {D:List Deferred} {G:Nat→Option (List V)} {N nb B:Nat} {base:Bs} {slots:List Tmp} {ν0 ν:Nu} {F0 F:Nat→Prop} {w0 w:World} {st:St} {a:Act} (hnils:(autoKeep nb slots st).nils=[]) (hfit:keepFit1 nb st.h (autoKeep nb slots st)=true) (hst:StOK D G N ν F st a w)
  (hb:EvoU (fun b=>b.lows base) ν0 F0 w0 ν F w) (hnb:nb=ν0.nxt) (hle:base.le nb=true) (hmk:MarksOK B ν F D w) :
  ∃ ν', StOK D G N ν' F ((autoKeep nb slots st).st st) a w∧EvoU (fun b=>b.lows base) ν0 F0 w0 ν' F w∧MarksOK B ν' F D w:=by
 generalize autoKeep nb slots st=kp at hfit hnils ⊢
 simp only [keepFit1,Bool.and_eq_true,List.all_eq_true,Bool.or_eq_true,List.any_eq_true] at hfit
 obtain ⟨⟨⟨⟨hfs,hok⟩,hnx⟩,hbase⟩,hold⟩:=hfit
 obtain ⟨h1,hown⟩:=keep_sound' hok (fun p hp=>by rw [hnils] at hp; cases hp) hst
 have hnx:=Nat.le_of_ble_eq_true hnx
 have cnt0 : ∀ B,ν0.cnt B=0:=fun B=>by
  have:=hb.1.cnt B
  rw [cnt_none hst.heap hfs B] at this
  omega
 have nom : ∀ B k, ¬ (Id.m B k).lt ν0.nxt ν0.cnt:=fun B k hl=>by
  have:k<ν0.cnt B:=hl
  rw [cnt0 B] at this
  omega
 have same : ∀ (x:Id) (n:Nat),(x,n)∈kp.blocks→n<ν0.nxt→x = .p n:=fun x n hm hn=>by
  rcases hbase _ hm with h | h
  ·have:=Nat.le_of_ble_eq_true h
   simp only at this
   omega
  ·exact Id.beq_iff.1 h
 have keep : ∀ b x,b.lt ν0.nxt ν0.cnt→(kpNu kp hok st.h ν).at_ b=some x→ν.at_ b=some x:=fun b x hlt hx=>by
  cases b with
  | m B k=>exact (nom B k hlt).elim
  | p n =>
   rw [kpNu_iff] at hx
   obtain ⟨y,hm,hy⟩:=hx
   rw [same y n hm hlt] at hy
   exact hy
 refine ⟨kpNu kp hok st.h ν,h1,⟨⟨hb.1.os,hb.1.tape,hb.1.output,hb.1.size,hb.1.old,hb.1.fmono,hb.1.fnew,fun r hr=>hb.1.onew r (hown r hr),fun b x hlt hx=>hb.1.keep b x hlt (keep b x hlt hx),by rw [← hnb]; exact hnx,fun B=>by rw [cnt0 B]; exact Nat.zero_le _,?_,?_,by first | exact Nat.le_refl _ | exact Nat.le_succ _ | assumption | exact e.drawn | exact he.drawn | exact hb.drawn | exact hb.1.drawn | exact h.drawn | exact g6.drawn | exact h2.drawn | exact ed.drawn | exact e1.drawn | exact hk.drawn | (subst_vars; exact Nat.le_refl _) | (simp; done) | omega⟩,?_⟩,?_⟩
 ·intro b hlt hx
  cases b with
  | m B k=>exact (nom B k hlt).elim
  | p n =>
   refine hb.1.kph _ hlt ?_
   simp only [kpNu,hnils,List.any_nil,Bool.false_or] at hx
   obtain ⟨y,hy,hyp⟩ : ∃ y,kp.src st.h (.p n)=some y∧ν.ph y=true:=by
    cases hs:kp.src st.h (.p n) with
    | none=>rw [hs] at hx; cases hx
    | some y=>rw [hs] at hx; exact ⟨y,rfl,hx⟩
   rw [same y n (src_p hy) hlt] at hyp
   exact hyp
 ·intro b r s n h0 hx c el fr hc
  exact hb.1.len b r s n h0 (keep b _ (ν0.lt _ _ h0) hx) c el fr hc
 ·intro b y hy hbl
  obtain ⟨e1,e2⟩:=hb.2 b y hy hbl
  refine ⟨e1,?_⟩
  have hbl:=Bs.le_low hle hbl
  cases b with
  | m B k=>cases hbl
  | p n =>
   have hn:n<nb:=blt_of hbl
   obtain ⟨r', s', n'⟩:=y
   obtain ⟨o,g1,_⟩:=hst.heap.blk _ r' s' n' e2
   have hmem : ∀ (l:List (Nat×O)),getB l n=some o→(n,o)∈l:=by
    intro l
    induction l with
    | nil=>intro h; cases h
    | cons p t ih =>
     obtain ⟨k,o'⟩:=p
     rw [getB_cons]
     by_cases hk:k=n
     ·rw [if_pos hk]; intro h; cases h; subst hk; simp
     ·rw [if_neg hk]; intro h; exact List.mem_cons_of_mem _ (ih h)
   rcases hold _ (hmem _ g1) with h | ⟨q,hq,hqq⟩
   ·have:=Nat.le_of_ble_eq_true h
    simp only at this
    omega
   ·rw [kpNu_iff]
    have z1:=Id.beq_iff.1 hqq.1
    have z2:=beq_eq hqq.2
    refine ⟨.p n,?_,e2⟩
    rw [show (Id.p n,n)=q from Prod.ext z1.symm z2.symm]
    exact hq
 ·exact ⟨fun d hd=>let ⟨r,q1,q2,q3,q4,q5⟩:=hmk.each d hd; ⟨r,q1,q2,fun ho=>q3 (hown r ho),q4,q5⟩,hmk.apart⟩
theorem getF_mem {B:Nat} {g:Fam} : ∀ {fs:List (Nat×Fam)},getF fs B=some g → ∃ p∈fs,p.1=B
 | [],h=>by simp [getF] at h
 | (a,x)::r,h=>by
  simp only [getF] at h
  cases hb:a.beq B with
  | true=>exact ⟨(a,x),List.mem_cons_self .., beq_eq hb⟩
  | false =>
   rw [hb] at h
   obtain ⟨p,h1,h2⟩:=getF_mem (fs:=r) h
   exact ⟨p,List.mem_cons_of_mem _ h1,h2⟩
theorem famFit_old {h:Hp} {kp:Keep} (hf:famFit h kp=true) {f:Fk} (hm:f∈kp.fams) {g:Fam} (hg:getF h.fs f.to=some g):f.of=some f.to∧f.old h=g.ms:=by
 simp only [famFit,Bool.and_eq_true,List.all_eq_true] at hf
 have h1:=hf.1 f hm
 cases ho:f.of with
 | none=>rw [ho] at h1; simp only at h1; rw [hg] at h1; cases h1
 | some B =>
  rw [ho] at h1
  simp only [Bool.and_eq_true] at h1
  have hB:=beq_eq h1.1
  subst hB
  rw [hg] at h1
  refine ⟨rfl,?_⟩
  unfold Fk.old
  rw [ho]
  simp only [hg,h1.2,cond_true]
theorem famFit_cnt {h:Hp} {kp:Keep} (hf:famFit h kp=true) (B:Nat):famLen h.fs B≤kp.cnt h B:=by
 unfold famLen
 cases hg:getF h.fs B with
 | none=>exact Nat.zero_le _
 | some g =>
  obtain ⟨p,p1,p2⟩:=getF_mem hg
  have h2:=hf
  simp only [famFit,Bool.and_eq_true,List.all_eq_true,List.any_eq_true] at h2
  obtain ⟨f,f1,f2⟩:=h2.2 p p1
  have hfB:f.to.beq B=true:=by rw [← p2]; exact f2
  unfold Keep.cnt
  cases hq:kp.fams.find? fun f=>f.to.beq B with
  | none=>exact absurd hfB (by have:=List.find?_eq_none.1 hq f f1; simpa using this)
  | some f' =>
   have e1:=beq_eq (List.find?_some (p:=fun f:Fk=>f.to.beq B) hq)
   have e2:=List.mem_of_find?_eq_some hq
   subst e1
   obtain ⟨_,e3⟩:=famFit_old hf e2 hg
   show g.ms.length≤(f'.ms h).length
   rw [Fk.ms,List.length_append,e3]
   omega
theorem famFit_src {h:Hp} {kp:Keep} (hf:famFit h kp=true) {B k:Nat} (hk:k<famLen h.fs B) {a:Id} (hs:kp.src h (.m B k)=some a):a = .m B k:=by
 obtain ⟨f,f1,f2,_,f3⟩:=src_m hs
 subst f2
 unfold famLen at hk
 cases hg:getF h.fs f.to with
 | none=>rw [hg] at hk; exact absurd hk (Nat.not_lt_zero _)
 | some g =>
  rw [hg] at hk
  obtain ⟨e1,e2⟩:=famFit_old hf f1 hg
  rcases f3 with ⟨_,B0,b1,b2⟩ | ⟨b1,_⟩
  ·rw [e1] at b1
   cases b1
   exact b2
  ·rw [e2] at b1
   exact absurd hk b1
theorem auto_soundF {D:List Deferred} {G:Nat→Option (List V)} {N nb B:Nat} {base:Bs} {kp:Keep} {ν0 ν:Nu} {F0 F:Nat→Prop} {w0 w:World} {st:St} {a:Act} (hfit:keepFitF nb st.h kp=true) (hst:StOK D G N ν F st a w)
  (hb:EvoU (fun b=>b.lows base) ν0 F0 w0 ν F w) (hnb:nb=ν0.nxt) (hle:base.le nb=true) (hmk:MarksOK B ν F D w) :
  ∃ ν', StOK D G N ν' F (kp.st st) a w∧EvoU (fun b=>b.lows base) ν0 F0 w0 ν' F w∧MarksOK B ν' F D w:=by
 simp only [keepFitF,Bool.and_eq_true,List.all_eq_true,Bool.or_eq_true,List.any_eq_true] at hfit
 obtain ⟨⟨⟨⟨⟨hok,hnx⟩,hbase⟩,hold⟩,hnils⟩,hff⟩:=hfit
 have hnils:kp.nils=[]:=List.isEmpty_iff.1 hnils
 obtain ⟨h1,hown⟩:=keep_sound' hok (fun p hp=>by rw [hnils] at hp; cases hp) hst
 have hnx:=Nat.le_of_ble_eq_true hnx
 have hcl : ∀ B k,k<ν0.cnt B→k<famLen st.h.fs B:=fun B k hk=>by
  have:=hb.1.cnt B
  rw [hst.heap.cnt B] at this
  omega
 have same : ∀ (x:Id) (n:Nat),(x,n)∈kp.blocks→n<ν0.nxt→x = .p n:=fun x n hm hn=>by
  rcases hbase _ hm with h | h
  ·have:=Nat.le_of_ble_eq_true h
   simp only at this
   omega
  ·exact Id.beq_iff.1 h
 have keep : ∀ b x,b.lt ν0.nxt ν0.cnt→(kpNu kp hok st.h ν).at_ b=some x→ν.at_ b=some x:=fun b x hlt hx=>by
  cases b with
  | m B k =>
   obtain ⟨_,y,hs,hy⟩:=(kpNu_at hok).1 hx
   rw [famFit_src hff (hcl B k hlt) hs] at hy
   exact hy
  | p n =>
   rw [kpNu_iff] at hx
   obtain ⟨y,hm,hy⟩:=hx
   rw [same y n hm hlt] at hy
   exact hy
 refine ⟨kpNu kp hok st.h ν,h1,⟨⟨hb.1.os,hb.1.tape,hb.1.output,hb.1.size,hb.1.old,hb.1.fmono,hb.1.fnew,fun r hr=>hb.1.onew r (hown r hr),fun b x hlt hx=>hb.1.keep b x hlt (keep b x hlt hx),by rw [← hnb]; exact hnx,fun B=>?_,?_,?_,by first | exact Nat.le_refl _ | exact Nat.le_succ _ | assumption | exact e.drawn | exact he.drawn | exact hb.drawn | exact hb.1.drawn | exact h.drawn | exact g6.drawn | exact h2.drawn | exact ed.drawn | exact e1.drawn | exact hk.drawn | (subst_vars; exact Nat.le_refl _) | (simp; done) | omega⟩,?_⟩,?_⟩
 ·have:=hb.1.cnt B
  rw [hst.heap.cnt B] at this
  exact Nat.le_trans this (famFit_cnt hff B)
 ·intro b hlt hx
  have hsrc : ∃ y,kp.src st.h b=some y∧ν.ph y=true:=by
   simp only [kpNu] at hx
   cases hs:kp.src st.h b with
   | none=>rw [hs] at hx; cases b <;> simp [hnils] at hx
   | some y=>rw [hs] at hx; refine ⟨y,rfl,?_⟩; cases b <;> simpa [hnils] using hx
  obtain ⟨y,hy,hyp⟩:=hsrc
  refine hb.1.kph _ hlt ?_
  cases b with
  | m B k =>
   rw [famFit_src hff (hcl B k hlt) hy] at hyp
   exact hyp
  | p n =>
   rw [same y n (src_p hy) hlt] at hyp
   exact hyp
 ·intro b r s n h0 hx c el fr hc
  exact hb.1.len b r s n h0 (keep b _ (ν0.lt _ _ h0) hx) c el fr hc
 ·intro b y hy hbl
  obtain ⟨e1,e2⟩:=hb.2 b y hy hbl
  refine ⟨e1,?_⟩
  have hbl:=Bs.le_low hle hbl
  cases b with
  | m B k=>cases hbl
  | p n =>
   have hn:n<nb:=blt_of hbl
   obtain ⟨r', s', n'⟩:=y
   obtain ⟨o,g1,_⟩:=hst.heap.blk _ r' s' n' e2
   have hmem : ∀ (l:List (Nat×O)),getB l n=some o→(n,o)∈l:=by
    intro l
    induction l with
    | nil=>intro h; cases h
    | cons p t ih =>
     obtain ⟨k,o'⟩:=p
     rw [getB_cons]
     by_cases hk:k=n
     ·rw [if_pos hk]; intro h; cases h; subst hk; simp
     ·rw [if_neg hk]; intro h; exact List.mem_cons_of_mem _ (ih h)
   rcases hold _ (hmem _ g1) with h | ⟨q,hq,hqq⟩
   ·have:=Nat.le_of_ble_eq_true h
    simp only at this
    omega
   ·rw [kpNu_iff]
    have z1:=Id.beq_iff.1 hqq.1
    have z2:=beq_eq hqq.2
    refine ⟨.p n,?_,e2⟩
    rw [show (Id.p n,n)=q from Prod.ext z1.symm z2.symm]
    exact hq
 ·exact ⟨fun d hd=>let ⟨r,q1,q2,q3,q4,q5⟩:=hmk.each d hd; ⟨r,q1,q2,fun ho=>q3 (hown r ho),q4,q5⟩,hmk.apart⟩
theorem autoKeep2_nils (nb:Nat) (slots:List Tmp) (st:St) (ex:List Id):(autoKeep2 nb slots st ex).nils=[]:=by
 unfold autoKeep2
 split <;> rfl
theorem autoKeep_nils (nb:Nat) (slots:List Tmp) (st:St):(autoKeep nb slots st).nils=[]:=by
 have h0 : ∀ slots,(autoKeep0 nb slots st).nils=[]:=fun slots=>by
  unfold autoKeep0
  split
  ·split
   ·exact autoKeep2_nils _ _ _ _
   ·rfl
  ·exact autoKeep2_nils _ _ _ _
 unfold autoKeep
 cases slots.any (Nat.beq 6000000) <;> exact h0 _
mutual
theorem tr_cid {τ:Id→Tr} : ∀ (v:V),v.closed=true→v.tr τ=v
 | .raw _,_=>by simp [V.tr]
 | .ptr _ _ _,h=>by simp [V.closed] at h
 | .sl _ _ _,h=>by simp [V.closed] at h
 | .sla _ _ _ _,h=>by simp [V.closed] at h
 | .mp _,h=>by simp [V.closed] at h
 | .yl _,h=>by simp [V.closed] at h
 | .agg cs,h=>by simp only [V.closed] at h; simp only [V.tr]; rw [trL_cid cs h]
 | .tup cs,h=>by simp only [V.closed] at h; simp only [V.tr]; rw [trL_cid cs h]
 | .fn f a c,h=>by simp only [V.closed,Bool.and_eq_true] at h; simp only [V.tr]; rw [trL_cid a h.1,trL_cid c h.2]
 | .lst _ _,_=>by simp [V.tr]
 | .lsx _ _,_=>by simp [V.tr]
 | .adr _ _,_=>by simp [V.tr]
 | .fmp _,_=>by simp [V.tr]
 | .junk,_=>by simp [V.tr]
theorem trL_cid {τ:Id→Tr} : ∀ (vs:List V),closedL vs=true→trL τ vs=vs
 | [],_=>by simp [trL]
 | v::vs,h=>by simp only [closedL,Bool.and_eq_true] at h; simp only [trL]; rw [tr_cid v h.1,trL_cid vs h.2]
end
theorem pmGo_iff {h:Hp} {p:Prop} : ∀ {pm:List Nat},pmGo h p pm→p ∧ ∀ b∈pm, ∀ es,getB h.bs b=some (.mp es)→es.all closedE=true
 | [],g=>⟨g,fun b hb=>by cases hb⟩
 | b::r,g=>by
  simp only [pmGo] at g
  split at g
  ·rename_i es he
   rw [guardB_iff] at g
   obtain ⟨g1,g2⟩:=pmGo_iff g.2
   refine ⟨g1,fun b' hb' es' he' => ?_⟩
   rcases List.mem_cons.1 hb' with e | e
   ·subst e
    rw [he] at he'
    cases he'
    exact g.1
   ·exact g2 b' e es' he'
  ·rename_i hn
   obtain ⟨g1,g2⟩:=pmGo_iff g
   refine ⟨g1,fun b' hb' es' he' => ?_⟩
   rcases List.mem_cons.1 hb' with e | e
   ·subst e
    exact (hn es' he').elim
   ·exact g2 b' e es' he'
theorem keepBsM_eq {pm:List Nat} {τ:Id→Tr} {pu:List Nat} {h:Hp} (hc : ∀ b∈pm, ∀ es,getB h.bs b=some (.mp es)→es.all closedE=true) : ∀ bs,keepBsM pm τ pu h bs=keepBs τ pu h bs
 | []=>rfl
 | (a,b)::r=>by
  simp only [keepBsM,keepBs]
  rw [keepBsM_eq hc r]
  cases he:h.get a with
  | none=>rfl
  | some o=>cases o with
   | rows s p es=>cases p <;> rfl
   | lp q=>rfl
   | it x n seen=>rfl
   | mp es =>
    simp only
    cases hp:pm.any (fun n=>a.beq (.p n)) with
    | false=>rfl
    | true =>
     obtain ⟨n,hn,hb⟩:=List.any_eq_true.1 hp
     have ha:a = .p n:=Id.beq_iff.1 hb
     subst ha
     have hall:=hc n hn es he
     have:(es.map fun kv=>(kv.1.tr τ,kv.2.tr τ))=es:=by
      conv=>rhs; rw [← List.map_id es]
      refine List.map_congr_left fun kv hkv=>?_
      have:=List.all_eq_true.1 hall kv hkv
      simp only [closedE,Bool.and_eq_true] at this
      rw [tr_cid _ this.1,tr_cid _ this.2]
      rfl
     rw [this]
     rfl
theorem ren_fam {kp:Keep} {h:Hp} {x:Id} (hd:renOf kp.blocks x = .drop):kp.ren h x=renFs h kp.fams x:=by
 unfold Keep.ren
 rw [hd]
theorem trMv_eq {kp:Keep} {h:Hp} {f:Fk} (hok:kp.ok=true) (hf:kp.fams=[f]) (old:Bool) (ho:old=true→f.of=some f.to ∧ ∃ g,getF h.fs f.to=some g∧g.s=f.s) {v:V} (hg:goodV f.take f.to old v=true):v.tr (kp.ren h)=trMv f.take f.to (f.old h).length v:=by
 obtain ⟨_,_,_,_,_,hfm⟩:=Keep.ok_iff.1 hok
 have hF:=famsOK_iff hfm
 have hne:kp.fams≠[]:=by rw [hf]; simp
 cases v with
 | sl b lo len =>
  cases b with
  | p a =>
   simp only [goodV] at hg
   obtain ⟨j,hj⟩:=Option.isSome_iff_exists.1 hg
   have hat:=posOf_iff hj
   have hd:renOf kp.blocks (.p a) = .drop:=by
    rcases renOf_cases kp.blocks (.p a) with e | ⟨b', _,hm⟩
    ·exact e
    ·have:=(List.nodup_append.1 (hF.apart hne)).2.2 (.p a) (List.mem_map.2 ⟨_,hm,rfl⟩) (.p a) (by rw [hf]; simp; exact List.mem_of_getElem? hat)
     exact (this rfl).elim
   simp only [V.tr,trMv,hj]
   rw [ren_fam hd,hf]
   simp only [renFs,hj]
  | m B k =>
   simp only [goodV,Bool.and_eq_true] at hg
   obtain ⟨h1,g,h2,h3⟩:=ho hg.1
   have hB:B=f.to:=Nat.eq_of_beq_eq_true hg.2
   subst hB
   have hd:renOf kp.blocks (.m f.to k) = .drop:=by
    rcases renOf_cases kp.blocks (.m f.to k) with e | ⟨b', _,hm⟩
    ·exact e
    ·have:=hF.plain hne _ hm
     simp [Id.plain] at this
   simp only [V.tr,trMv]
   rw [ren_fam hd,hf]
   simp only [renFs,h1,h2,h3]
   have b1:Nat.beq f.to f.to=true:=Nat.beq_refl _
   have b2:Nat.beq f.s f.s=true:=Nat.beq_refl _
   rw [b1,b2]
   rfl
 | _=>exact tr_cid _ hg
theorem trM_eq {kp:Keep} {h:Hp} {f:Fk} (hok:kp.ok=true) (hf:kp.fams=[f]) (old:Bool) (ho:old=true→f.of=some f.to ∧ ∃ g,getF h.fs f.to=some g∧g.s=f.s) {es:List (V×V)} (hg:es.all (goodE f.take f.to old)=true):(es.map fun kv=>(kv.1.tr (kp.ren h),kv.2.tr (kp.ren h)))=trM f.take f.to (f.old h).length es:=by
 refine List.map_congr_left fun kv hkv=>?_
 have:=List.all_eq_true.1 hg kv hkv
 simp only [goodE,Bool.and_eq_true] at this
 rw [tr_cid _ this.1,trMv_eq hok hf old ho this.2]
theorem natK_of {n:Nat} {k:Nat→Prop} (h:natK n k):k n:=by
 unfold natK at h
 cases h0:n.beq 0 with
 | true=>rw [h0,cond_true] at h; rw [Nat.eq_of_beq_eq_true h0]; exact h
 | false =>
  rw [h0,cond_false] at h
  cases h1:n.beq 1 with
  | true=>rw [h1,cond_true] at h; rw [Nat.eq_of_beq_eq_true h1]; exact h
  | false=>rw [h1,cond_false] at h; exact h.elim
theorem listK_of : ∀ {l:List Nat} {k:List Nat→Prop},listK l k→k l
 | [],k,h=>h
 | a::r,k,h=>listK_of (l:=r) (k:=fun r' => k (a::r')) h
theorem oldK_of {h:Hp} {f:Fk} {k:Bool→Nat→Prop} (g:oldK h f k) : ∃ old,k old (f.old h).length∧(old=true→f.of=some f.to ∧ ∃ g,getF h.fs f.to=some g∧g.s=f.s):=by
 unfold oldK at g
 unfold Fk.old
 cases hf:f.of with
 | none=>rw [hf] at g; exact ⟨false,g,fun e=>by cases e⟩
 | some B =>
  rw [hf] at g
  simp only at g ⊢
  cases hB:B.beq f.to with
  | false=>rw [hB,cond_false] at g; exact g.elim
  | true =>
   rw [hB,cond_true] at g
   have:=Nat.eq_of_beq_eq_true hB
   subst this
   cases hg:getF h.fs f.to with
   | none=>rw [hg] at g; exact g.elim
   | some x =>
    rw [hg] at g
    simp only at g ⊢
    cases hs:x.s.beq f.s with
    | false=>rw [hs,cond_false] at g; exact g.elim
    | true =>
     rw [hs,cond_true] at g
     exact ⟨true,by rw [cond_true]; exact g,fun _=>⟨by first | trivial | rfl,x,by first | trivial | rfl,Nat.eq_of_beq_eq_true hs⟩⟩
theorem trL_mapV {τ:Id→Tr} : ∀ (l:List V),trL τ l=l.map (V.tr τ)
 | []=>by simp [trL]
 | v::l=>by simp [trL,trL_mapV l]
theorem trR_eq {kp:Keep} {h:Hp} {f:Fk} (hok:kp.ok=true) (hf:kp.fams=[f]) (old:Bool) (ho:old=true→f.of=some f.to ∧ ∃ g,getF h.fs f.to=some g∧g.s=f.s) {es:List (List V)} (hg:es.all (goodR f.take f.to old)=true):es.map (trL (kp.ren h))=trR f.take f.to (f.old h).length es:=by
 refine List.map_congr_left fun row hrow=>?_
 have:=List.all_eq_true.1 hg row hrow
 simp only [goodR] at this
 rw [trL_mapV]
 exact List.map_congr_left fun v hv=>trMv_eq hok hf old ho (List.all_eq_true.1 this v hv)
theorem famGo_iff {h:Hp} {tk:List Nat} {B:Nat} {old:Bool} {p:Prop} : ∀ {pm:List Nat},famGo h tk B old p pm→p∧(∀ b∈pm, ∀ es,getB h.bs b=some (.mp es)→es.all (goodE tk B old)=true) ∧ ∀ b∈pm, ∀ s es,getB h.bs b=some (.rows s false es)→es.all (goodR tk B old)=true
 | [],g=>⟨g,(fun b hb=>by cases hb),fun b hb=>by cases hb⟩
 | b::r,g=>by
  simp only [famGo] at g
  split at g
  ·rename_i es he
   rw [guardB_iff] at g
   obtain ⟨g1,g2,g3⟩:=famGo_iff g.2
   refine ⟨g1,fun b' hb' es' he' => ?_,fun b' hb' s' es' he' => ?_⟩
   ·rcases List.mem_cons.1 hb' with e | e
    ·subst e
     rw [he] at he'
     cases he'
     exact g.1
    ·exact g2 b' e es' he'
   ·rcases List.mem_cons.1 hb' with e | e
    ·subst e
     rw [he] at he'
     cases he'
    ·exact g3 b' e s' es' he'
  ·rename_i s es he
   rw [guardB_iff] at g
   obtain ⟨g1,g2,g3⟩:=famGo_iff g.2
   refine ⟨g1,fun b' hb' es' he' => ?_,fun b' hb' s' es' he' => ?_⟩
   ·rcases List.mem_cons.1 hb' with e | e
    ·subst e
     rw [he] at he'
     cases he'
    ·exact g2 b' e es' he'
   ·rcases List.mem_cons.1 hb' with e | e
    ·subst e
     rw [he] at he'
     cases he'
     exact g.1
    ·exact g3 b' e s' es' he'
  ·rename_i hn hn2
   obtain ⟨g1,g2,g3⟩:=famGo_iff g
   refine ⟨g1,fun b' hb' es' he' => ?_,fun b' hb' s' es' he' => ?_⟩
   ·rcases List.mem_cons.1 hb' with e | e
    ·subst e
     exact (hn es' he').elim
    ·exact g2 b' e es' he'
   ·rcases List.mem_cons.1 hb' with e | e
    ·subst e
     exact (hn2 s' es' he').elim
    ·exact g3 b' e s' es' he'
theorem keepBsF_eq {pm tk:List Nat} {B n0:Nat} {τ:Id→Tr} {pu:List Nat} {h:Hp} (hc : ∀ b∈pm, ∀ es,getB h.bs b=some (.mp es)→(es.map fun kv=>(kv.1.tr τ,kv.2.tr τ))=trM tk B n0 es) (hr : ∀ b∈pm, ∀ s es,getB h.bs b=some (.rows s false es)→es.map (trL τ)=trR tk B n0 es) : ∀ bs,keepBsF tk B n0 pm τ pu h bs=keepBs τ pu h bs
 | []=>rfl
 | (a,b)::r=>by
  simp only [keepBsF,keepBs]
  rw [keepBsF_eq hc hr r]
  cases he:h.get a with
  | none=>rfl
  | some o=>cases o with
   | lp q=>rfl
   | it x n seen=>rfl
   | rows s p es =>
    cases p with
    | true=>rfl
    | false =>
     simp only
     cases hp:pm.any (fun n=>a.beq (.p n)) with
     | false=>rfl
     | true =>
      obtain ⟨n,hn,hb⟩:=List.any_eq_true.1 hp
      have ha:a = .p n:=Id.beq_iff.1 hb
      subst ha
      cases hpu:pu.any b.beq with
      | true=>rfl
      | false =>
       rw [hr n hn s es he]
       rfl
   | mp es =>
    simp only
    cases hp:pm.any (fun n=>a.beq (.p n)) with
    | false=>rfl
    | true =>
     obtain ⟨n,hn,hb⟩:=List.any_eq_true.1 hp
     have ha:a = .p n:=Id.beq_iff.1 hb
     subst ha
     rw [hc n hn es he]
     rfl
theorem goF_of {nb:Nat} {kp:Keep} {pm:List Nat} {st:St} {k:St→Prop} (hfit:keepFit nb st.h kp=true) (h:goF kp pm st k):k (kp.st st):=by
 unfold goF at h
 split at h
 ·rename_i f hf
  have hok:kp.ok=true:=by
   unfold keepFit at hfit
   rw [hf] at hfit
   simp only [keepFitF,Bool.and_eq_true] at hfit
   exact hfit.1.1.1.1.1
  have h:=listK_of (natK_of h)
  obtain ⟨old,h,ho⟩:=oldK_of h
  obtain ⟨g1,g2,g3⟩:=famGo_iff h
  have:kp.stF f.take f.to (f.old st.h).length pm st=kp.st st:=by
   unfold Keep.stF Keep.st
   rw [keepBsF_eq (fun b hb es he=>trM_eq hok hf old ho (g2 b hb es he)) (fun b hb s es he=>trR_eq hok hf old ho (g3 b hb s es he))]
  rw [← this]
  exact g1
 ·exact h.elim
theorem autoGo_iff {nb:Nat} {slots:List Tmp} {st:St} {k:St→Prop} (h:autoGo nb slots st k):keepFit nb st.h (autoKeep nb slots st)=true∧k ((autoKeep nb slots st).st st):=by
 unfold autoGo at h
 rw [guardB_iff] at h
 refine ⟨h.1,?_⟩
 have hfit:=h.1
 have h:=h.2
 split at h
 ·split at h
  ·exact h
  ·obtain ⟨g1,g2⟩:=pmGo_iff h
   have : ∀ pm,(∀ b∈pm, ∀ es,getB st.h.bs b=some (.mp es)→es.all closedE=true)→(autoKeep nb slots st).stM pm st=(autoKeep nb slots st).st st:=fun pm hpm=>by
    unfold Keep.stM Keep.st
    rw [keepBsM_eq hpm]
   rw [← this _ g2]
   exact g1
 ·exact goF_of hfit h
theorem auto_sound {D:List Deferred} {G:Nat→Option (List V)} {N nb B:Nat} {base:Bs} {slots:List Tmp} {ν0 ν:Nu} {F0 F:Nat→Prop} {w0 w:World} {st:St} {a:Act} (hfit:keepFit nb st.h (autoKeep nb slots st)=true) (hst:StOK D G N ν F st a w)
  (hb:EvoU (fun b=>b.lows base) ν0 F0 w0 ν F w) (hnb:nb=ν0.nxt) (hle:base.le nb=true) (hmk:MarksOK B ν F D w) :
  ∃ ν', StOK D G N ν' F ((autoKeep nb slots st).st st) a w∧EvoU (fun b=>b.lows base) ν0 F0 w0 ν' F w∧MarksOK B ν' F D w:=by
 unfold keepFit at hfit
 split at hfit
 ·exact auto_sound1 (autoKeep_nils nb slots st) hfit hst hb hnb hle hmk
 ·exact auto_soundF hfit hst hb hnb hle hmk
theorem WY_sound {P:Program} (hm:P.follows .mixedOrders=true) {cfg:Cfg} (hcf:cfg.ok P) : ∀ f,SoundY P cfg.glob cfg.kps (WY P cfg f):=by
 intro f
 induction f with
 | zero=>intro v ro' c Q st ν F a w ν0 F0 w0 D h; exact h.elim
 | succ f ih =>
  intro v ro' c Q st ν F a w ν0 F0 w0 D h hst hb hnb hro hmk hD
  obtain ⟨base,nb,ro,N,fid0,cur⟩:=v
  simp only at h hst hb hnb hro hmk hD ⊢
  have hC:=callY_ok hcf ih base fid0
  have thn : ∀ (X:St→Prop) (Y:Act→World→Prop),(∀ ν F s a w D,X s→StOK D cfg.glob N ν F s a w→EvoU (fun b=>b.lows base) ν0 F0 w0 ν F w→MarksOK w0.heap.size ν F D w→(ro≠none→D=[])→Y a w) → ∀ e a w,liftY cfg.glob N base ro ν0 F0 w0 (Qthen X Q) e a w→Exit.then Y (liftY cfg.glob N base ro ν0 F0 w0 Q) e a w:=by
   rintro X Y hXY e a w ⟨ex,ν,F,s,D,h1,h2,h3,h4,h5,h6⟩
   cases e <;> cases ex <;> simp only [exOf] at h1
   case normal.norm=>exact hXY ν F s a w D h6 h2 h3 h4 h5
   case exit.exit i j=>exact ⟨.exit j,ν,F,s,D,h1,h2,h3,h4,h5,h6⟩
   case ret.ret=>exact ⟨.ret,ν,F,s,D,trivial,h2,h3,h4,h5,h6⟩
  have loop : ∀ x,cfg.kps fid0 cur=none→WY P cfg f ⟨base,nb,ro,N,fid0,cur⟩ x (Qthen (WY P cfg f ⟨base,nb,ro,N,fid0,cur⟩ (.loop x) Q) Q) st→LoopFrom (Frm ro') 0 P x (liftY cfg.glob N base ro ν0 F0 w0 Q) a w:=fun x hk h =>
   loopFrom_round (wpIn_mono (ih ⟨base,nb,ro,N,fid0,cur⟩ ro' x _ st ν F a w ν0 F0 w0 D h hst hb hnb hro hmk hD).1 (thn _ _ fun ν F s a w D hs h2 h3 h4 h5=>(ih ⟨base,nb,ro,N,fid0,cur⟩ ro' (.loop x) Q s ν F a w ν0 F0 w0 D hs h2 h3 hnb hro h4 h5).2 x rfl hk))
  refine ⟨?_,fun x hx hk=>by subst hx; simp only [WY,hk] at h; exact loop x hk h⟩
  cases c with
  | skip=>exact wpIn_skip ⟨.norm,ν,F,st,D,trivial,hst,hb,hmk,hD,h⟩
  | label l=>exact wpIn_label ⟨.norm,ν,F,st,D,trivial,hst,hb,hmk,hD,h⟩
  | exit id=>exact wpIn_exit ⟨.exit id,ν,F,st,D,rfl,hst,hb,hmk,hD,h⟩
  | ret=>exact wpIn_ret ⟨.ret,ν,F,st,D,trivial,hst,hb,hmk,hD,h⟩
  | region id ops draw =>
   cases draw with
   | false =>
    simp only [WY] at h
    refine region_in ?_
    have:=ops_sound (ops:=ops) (Q:=liftY cfg.glob N base ro ν0 F0 w0 Q) (ν0:=ν) (F0:=F) (w0:=w) hC (askY_keeps P cfg _ base fid0) (fun ν' F' st' a' w' h1 h2 h3=>⟨.norm,ν', F', st', D,trivial,h1,hb.trans h2,hmk.evo h2.1,hD,h3⟩) ops.size 0 ν F st a w (by omega) hst (EvoU.refl _ _ _ _) (by simpa using h)
    rw [List.range_eq_range']
    exact this
   | true =>
    simp only [WY,guardB_iff] at h
    obtain ⟨hok,h⟩:=h
    refine region_any_in hm ?_
    obtain ⟨hk,he⟩:=heap_same (w' := { w with drawn:=w.drawn+1 }) hst.heap rfl rfl rfl rfl
    have he' : EvoU (fun b=>b.lows base) ν F w ν F { w with drawn:=w.drawn+1 }:=⟨he,fun b y hy _=>⟨rfl,hy⟩⟩
    have hst' : StOK D cfg.glob N ν F st a { w with drawn:=w.drawn+1 }:=⟨hk,hst.size,hst.defers,hst.slot.evo hst.heap he⟩
    refine wpAny_of_S (S:=SH ops []) _ _ _ _ (draw_sound (ν0:=ν) (F0:=F) (w0:={ w with drawn:=w.drawn+1 }) hC (askY_keeps P cfg _ base fid0) hok (fun c a w h=>?_) (fun ν' F' st' a' w' h1 h2 h3=>⟨.norm,ν', F', st', D,trivial,h1,(hb.trans he').trans h2,(hmk.evo he).evo h2.1,hD,h3⟩)
     _ ν F st a _ ⟨by simp,fun j=>?_⟩ (fun j oj hj hl=>?_) hst' (EvoU.refl _ _ _ _) h)
    ·obtain ⟨ex,_,_,_,_,h1,_⟩:=h
     cases ex <;> exact h1
    ·have:(0:Nat).testBit j=false:=Nat.zero_testBit j
     rw [this]
     simp only [Array.getD_eq_getD_getElem?,Array.getElem?_replicate]
     split <;> rfl
    ·exfalso
     simp only [Array.getD_eq_getD_getElem?,Array.getElem?_replicate] at hl
     split at hl <;> simp at hl
  | seq x y =>
   refine wpIn_seq (wpIn_mono (ih ⟨base,nb,ro,N,fid0,cur⟩ ro' x _ st ν F a w ν0 F0 w0 D h hst hb hnb hro hmk hD).1 (thn _ _ fun ν F s a w D hs h2 h3 h4 h5=>(ih ⟨base,nb,ro,N,fid0,cur⟩ ro' y Q s ν F a w ν0 F0 w0 D hs h2 h3 hnb hro h4 h5).1))
  | cond c x y =>
   simp only [WY,onBool_iff,ifB_iff] at h
   obtain ⟨t,ht,h1,h2⟩:=h
   have hr:=ev_rep (a:=a) hst.slot c
   rw [ht] at hr
   simp only [rep] at hr
   refine wpIn_cond_split hr (fun h=>?_) (fun h=>?_)
   ·exact (ih ⟨base,nb,ro,N,fid0,cur⟩ ro' x Q st ν F a w ν0 F0 w0 D (h1 h) hst hb hnb hro hmk hD).1
   ·exact (ih ⟨base,nb,ro,N,fid0,cur⟩ ro' y Q st ν F a w ν0 F0 w0 D (h2 h) hst hb hnb hro hmk hD).1
  | block id x =>
   refine wpIn_block (wpIn_mono (ih ⟨base,nb,ro,N,fid0,id⟩ ro' x _ st ν F a w ν0 F0 w0 D h hst hb hnb hro hmk hD).1 ?_)
   rintro e a' w' ⟨ex,ν', F', st', D', h1,h2,h3,h5,h6,h4⟩
   cases e <;> cases ex <;> simp only [exOf] at h1
   case normal.norm=>exact ⟨.norm,ν', F', st', D', trivial,h2,h3,h5,h6,h4⟩
   case exit.exit i j =>
    subst h1
    simp only [Qblk] at h4
    simp only [Exit.inBlock]
    cases hbq:i.beq id with
    | true =>
     rw [hbq] at h4
     rw [if_pos (beq_eq hbq)]
     exact ⟨.norm,ν', F', st', D', trivial,h2,h3,h5,h6,h4⟩
    | false =>
     rw [hbq] at h4
     rw [if_neg (fun heq=>by subst heq; simp at hbq)]
     exact ⟨.exit i,ν', F', st', D', rfl,h2,h3,h5,h6,h4⟩
   case ret.ret=>exact ⟨.ret,ν', F', st', D', trivial,h2,h3,h5,h6,h4⟩
  | loop x =>
   cases hk:cfg.kps fid0 cur with
   | none =>
    simp only [WY,hk] at h
    exact wpIn_loop_from (loop x hk h)
   | some slots =>
    simp only [WY,hk] at h
    rw [guardB_iff] at h
    obtain ⟨hle,h⟩:=h
    obtain ⟨hfit,h⟩:=autoGo_iff h
    have hle:=hle
    obtain ⟨ν1,q1,q2,q3⟩:=auto_sound hfit hst hb hnb hle hmk
    refine wpIn_loop_from ?_
    refine h.out (fun s => ∀ ν F a w D,StOK D cfg.glob N ν F s a w→EvoU (fun b=>b.lows base) ν0 F0 w0 ν F w→MarksOK w0.heap.size ν F D w→(ro≠none→D=[])→LoopFrom (Frm ro') 0 P x (liftY cfg.glob N base ro ν0 F0 w0 Q) a w) ?_ ν1 F a w D q1 q2 q3 hD
    intro s hs ν F a w D hst hb hmk hD
    refine loopFrom_round (wpIn_mono (ih ⟨base,nb,ro,N,fid0,cur⟩ ro' x _ s ν F a w ν0 F0 w0 D hs hst hb hnb hro hmk hD).1 ?_)
    rintro e a' w' ⟨ex,ν', F', st', D', h1,h2,h3,h4,h5,h6⟩
    cases e <;> cases ex <;> simp only [exOf] at h1
    case normal.norm =>
     simp only [Qla] at h6
     obtain ⟨hfit', h6⟩:=autoGo_iff h6
     obtain ⟨ν2,r1,r2,r3⟩:=auto_sound hfit' h2 h3 hnb hle h4
     exact h6 ν2 F' a' w' D' r1 r2 r3 h5
    case exit.exit i j=>exact ⟨.exit j,ν', F', st', D', h1,h2,h3,h4,h5,h6⟩
    case ret.ret=>exact ⟨.ret,ν', F', st', D', trivial,h2,h3,h4,h5,h6⟩
  | scope x =>
   refine wpIn_scope_straight (wpIn_mono (ih ⟨base,nb,ro,N,fid0,cur⟩ ro' x Q st ν F a w ν0 F0 w0 D h hst hb hnb hro hmk hD).1 ?_)
   rintro e a' w' ⟨ex,ν', F', st', D', h1,h2⟩
   cases e <;> first | exact ⟨ex,ν', F', st', D', h1,h2⟩ | (cases ex <;> exact h1.elim)
  | goto l=>exact h.elim
  | refuse s=>exact h.elim
  | rangeFunc g ps assign body =>
   simp only [WY] at h
   split at h
   case h_2=>exact h.elim
   case h_1 fid first caps hg =>
   rw [guardB_iff] at h
   obtain ⟨hbase,h⟩:=h
   have hle:=hbase
   have hr:=ev_rep (a:=a) hst.slot g
   rw [hg] at hr
   simp only [rep] at hr
   obtain ⟨as,cs,hgx,has,hcs⟩:=hr
   have core : ∀ (w1 : World) (mark : List Deferred) (dr : Nat) (fnid : FuncId), (onSome P.funcs[fid]? fun fn => guardB (cfg.enter fid && fn.body.isSome && (fn.name != "runtime.NumGoroutine") && (cfg.known fid (frzL (st.h.add (.lp ⟨.ready, none, st.tm, N, ps, assign, body, fid0⟩)) (first ++ [.yl (.p st.h.nxt)] ++ caps))).isNone) <|
     (callY P cfg (WY P cfg f) base fid0).c fid (first++[.yl (.p st.h.nxt)]++caps) (st.h.add (.lp ⟨.ready,none,st.tm,N,ps,assign,body,fid0⟩)) (kontY (WY P cfg f) ⟨base,nb,ro,N,fid0,cur⟩ Q st.tm st.h.nxt)) →
     HeapOK ν F st.h w1→EvoU (fun b=>b.lows base) ν F w ν F w1→MarksOK w0.heap.size ν F (mark++D) w1→(ro≠none→mark++D=[]) →
     ∃ fn bd, P.funcs[fid]? = some fn ∧ fn.body = some bd ∧ (fn.name == "runtime.NumGoroutine") = false ∧
     CallsIn (Frm ro') 0 P fid (as ++ #[.func (.yield w1.heap.size) #[] #[]]++cs) (w1.alloc (.loop { state := .ready,pending:=none,fn:=fnid,tmps:=a.tmps,params:=ps,assign,body,defers:=dr })) (rangePost (Frm ro') 0 P w1.heap.size (liftY cfg.glob N base ro ν0 F0 w0 Q) { a with defers:=mark++a.defers }):=by
    intro w1 mark dr fnid h hh1 he1 hm1 hD1
    rw [onSome_iff] at h
    obtain ⟨fn,hfn,h⟩:=h
    rw [guardB_iff,Bool.and_eq_true,Bool.and_eq_true,Bool.and_eq_true] at h
    obtain ⟨⟨⟨⟨hen,hbd⟩,hname⟩,hnone⟩,h⟩:=h
    obtain ⟨bd,hbd⟩:=Option.isSome_iff_exists.1 hbd
    refine ⟨fn,bd,hfn,hbd,by simpa using hname,?_⟩
    have hs1:SlotOK cfg.glob F w1 ν st.tm a.tmps:=hst.slot.evo hst.heap he1.1
    obtain ⟨hh2,he2⟩:=heap_newO (w' := w1.alloc (.loop { state := .ready,pending:=none,fn:=fnid,tmps:=a.tmps,params:=ps,assign,body,defers:=dr })) hh1 0 0 (.lp ⟨.ready,none,st.tm,N,ps,assign,body,fid0⟩) _ rfl
     (fun e=>⟨_,World.alloc_heap_new _ _,⟨rfl,rfl,hst.size,rfl,rfl,rfl,fun t v ht=>let ⟨x,q1,q2⟩:=hs1.1 t v ht; ⟨x,q1,rep_evo hh1 e v x q2⟩⟩⟩)
    have hu2:=EvoU.low_new (base:=base) hh1 he2
    have hs2:=hs1.evo hh1 he2
    have hl:repL F (w1.alloc (.loop { state := .ready,pending:=none,fn:=fnid,tmps:=a.tmps,params:=ps,assign,body,defers:=dr })) (ν.add w1.heap.size 0 0) (first++[.yl (.p st.h.nxt)]++caps) (as.toList++[.func (.yield w1.heap.size) #[] #[]]++cs.toList):=by
     refine repL_append (repL_append (repL_evo hh1 he2 _ _ (repL_evo hst.heap he1.1 _ _ has)) ?_) (repL_evo hh1 he2 _ _ (repL_evo hst.heap he1.1 _ _ hcs))
     simp only [repL,rep]
     refine ⟨_,[],rfl,⟨by rw [← hh1.nxt]; exact Id.lt_new _ _,fun r s n hat=>?_⟩,rfl⟩
     simp only [Nu.add] at hat
     rw [← hh1.nxt,if_pos rfl] at hat
     cases hat
     rfl
    have hk:=hC.c _ _ _ _ h (ν.add w1.heap.size 0 0) F _ _ hh2 hs2.2 hl
    have harr:(as.toList++[Value.func (.yield w1.heap.size) #[] #[]]++cs.toList).toArray=as ++ #[.func (.yield w1.heap.size) #[] #[]]++cs:=by simp
    rw [harr] at hk
    refine callsIn_Frm.2 (hk.mono ?_)
    rintro e w3 ⟨x,v,ν3,F3,h3,rfl,hk3,hh3,_,he3,hun3⟩
    rw [kontY,onLp_iff] at hk3
    obtain ⟨n,q,hn,hq,hk3⟩:=hk3
    cases hn
    have hat2:(ν.add w1.heap.size 0 0).at_ (.p st.h.nxt)=some (w1.heap.size,0,0):=by
     simp only [Nu.add]
     rw [← hh1.nxt,if_pos rfl]
    obtain ⟨l3,s3,n3,rec3,hat3,hrec3,hlr3⟩:=lp_at hh3 hq
    have:=he3.keep _ _ ((ν.add w1.heap.size 0 0).lt _ _ hat2) hat3
    rw [hat2] at this
    cases this
    have hu3:EvoU (fun b=>b.lows base) (ν.add w1.heap.size 0 0) F _ ν3 F3 w3:=⟨he3,fun b y hy hbl=>hun3 b y hy (callY_t hen hbl (Bs.le_succ hle (Nat.le_succ _)) (.inl (isRaw_none hnone)))⟩
    obtain ⟨k1,k2⟩:=heap_setL (q' := q.go .exhausted q.pending) (rec' := { rec3 with state := .exhausted }) hh3 hat3 hrec3 ⟨rfl,hlr3.pending,hlr3.size,hlr3.ps,hlr3.assign,hlr3.body,hlr3.slot⟩
    obtain ⟨d1,d2⟩:=heap_del k1 (.p st.h.nxt)
    rw [put_del] at d1
    have hlow : ∀ b:Id,b.lows base=true→b ≠ .p st.h.nxt:=fun b hbl he=>by
     subst he
     rw [Bs.le_new hle (Nat.le_refl _)] at hbl
     cases hbl
    have hu4:EvoU (fun b=>b.lows base) ν3 F3 w3 (ν3.del (.p st.h.nxt)) F3 (w3.putObj w1.heap.size (.loop { rec3 with state := .exhausted })):=⟨k2.trans d2,fun b y hy hbl=>⟨by
     refine World.putObj_heap_other fun he=>hlow b hbl ?_
     obtain ⟨r,s', m'⟩:=y
     simp only at he
     subst he
     exact hh3.inj _ _ _ _ _ _ _ hy hat3,by
     simp only [Nu.del]
     rw [if_neg (hlow b hbl)]
     exact hy⟩⟩
    have huA:=(hu2.trans hu3).trans hu4
    have hS4:StOK (mark++D) cfg.glob N (ν3.del (.p st.h.nxt)) F3 ⟨st.tm,h3.del (.p st.h.nxt)⟩ { a with defers:=mark++a.defers } (w3.putObj w1.heap.size (.loop { rec3 with state := .exhausted })) :=
     ⟨d1,hst.size,by show mark++a.defers=mark++D; rw [hst.defers],hs1.evo hh1 huA.1⟩
    have hm4:=hm1.evo huA.1
    have hb4:=(hb.trans he1).trans huA
    refine ⟨_,_,run_endLoop hrec3 ?_,?_⟩
    ·intro hbusy
     rw [hlr3.state] at hbusy
     rw [hbusy] at hk3
     exact hk3
    ·have hk3 : (match q.pending with
       | none=>Q .norm ⟨st.tm,h3.del (.p st.h.nxt)⟩
       | some c=>WY P cfg f ⟨base,nb,ro,N,fid0,cur⟩ c Q ⟨st.tm,h3.del (.p st.h.nxt)⟩):=by
      split at hk3
      ·exact hk3.elim
      ·exact hk3
     revert hS4 hm4 hb4
     generalize w3.putObj w1.heap.size (.loop { rec3 with state := .exhausted })=w4
     intro hS4 hm4 hb4
     rw [hlr3.pending]
     split at hk3
     ·rename_i hp
      rw [hp]
      exact ⟨.norm,_,F3,_,_,trivial,hS4,hb4,hm4,hD1,hk3⟩
     ·rename_i c hp
      rw [hp]
      exact (ih ⟨base,nb,ro,N,fid0,cur⟩ ro' c Q _ _ F3 _ _ ν0 F0 w0 _ hk3 hS4 hb4 hnb hro hm4 hD1).1
   refine wpIn_rangeFunc ?_
   intro fnid _
   have fin : ∀ (w1 : World) (mark : List Deferred) (dr : Nat), (∃ fn bd, P.funcs[fid]? = some fn ∧ fn.body = some bd ∧ (fn.name == "runtime.NumGoroutine") = false ∧
     CallsIn (Frm ro') 0 P fid (as ++ #[.func (.yield w1.heap.size) #[] #[]]++cs) (w1.alloc (.loop { state := .ready,pending:=none,fn:=fnid,tmps:=a.tmps,params:=ps,assign,body,defers:=dr })) (rangePost (Frm ro') 0 P w1.heap.size (liftY cfg.glob N base ro ν0 F0 w0 Q) { a with defers:=mark++a.defers })) →
     (Instr.enterLoop fnid a.tmps ps assign body (Frm ro').round).run P w = .ok (w1.heap.size,mark) (w1.alloc (.loop { state := .ready,pending:=none,fn:=fnid,tmps:=a.tmps,params:=ps,assign,body,defers:=dr })) →
     ∃ (l:Nat) (mark:List Deferred) (w₁:World) (d:Deferred) (w₁' : World) (f' : FuncId) (args:Array Value) (w₂:World),
      (Instr.enterLoop fnid a.tmps ps assign body (Frm ro').round).run P w = .ok (l,mark) w₁∧(resolve a.eval (rangeCall g l) 0).run P w₁ = .ok d w₁' ∧ (∀ f', Target.leads P w₁' d.target d.args=some f' → (Frm ro').fn f') ∧
      (invoke d.target d.args).run P w₁' = .ok (.enter f' args) w₂∧((Frm ro').depth.isSome=true→1≤0)∧CallsIn (Frm ro') (0 - 1) P f' args w₂ (rangePost (Frm ro') 0 P l (liftY cfg.glob N base ro ν0 F0 w0 Q) { a with defers:=mark++a.defers }):=by
    rintro w1 mark dr ⟨fn,bd,hfn,hbd,hname,hcall⟩ hent
    have hname'' : ¬ fn.name = "runtime.NumGoroutine" := by simpa using hname
    refine ⟨_,_,(w1.alloc (.loop { state := .ready,pending:=none,fn:=fnid,tmps:=a.tmps,params:=ps,assign,body,defers:=dr })),{ target := .fn (.func fid) cs,args:=as ++ #[.func (.yield w1.heap.size) #[] #[]] },(w1.alloc (.loop { state := .ready,pending:=none,fn:=fnid,tmps:=a.tmps,params:=ps,assign,body,defers:=dr })),fid,_,(w1.alloc (.loop { state := .ready,pending:=none,fn:=fnid,tmps:=a.tmps,params:=ps,assign,body,defers:=dr })),hent,?_,fun _ _=>trivial,?_,fun h=>(by cases h),hcall⟩
    ·simp only [resolve,hgx]
     simp [Deferred.ofValue,Act.eval]
    ·simp [invoke,callFunc,hfn,hbd,hname,hname'']
   cases ro with
   | none =>
    have hro' : ro' = none:=by
     cases ro' with
     | none=>rfl
     | some l=>exact hro.elim
    subst hro'
    obtain ⟨hh1,he1⟩:=heap_call0 (F' := F) (w' := w.alloc (.deferred (some []))) hst.heap ⟨((Go.RowKit.Below.refl _ w).alloc (Nat.le_refl _) _),Nat.le_refl _⟩ (fun r h=>h) (fun r h => .inl h) (fun r h=>by have:=(hst.heap.frz r h).1; simp; omega)
    have hsz:(w.alloc (.deferred (some []))).heap.size=w.heap.size+1:=by simp
    refine fin (w.alloc (.deferred (some []))) [{ target := .collected w.heap.size,args := #[] }] w.heap.size (core _ _ _ _ h hh1 ⟨he1,fun b y hy _=>⟨?_,hy⟩⟩ ?_ (fun h=>(h rfl).elim)) ?_
    ·obtain ⟨r,s,n⟩:=y
     exact push_old (w' := w.alloc (.deferred (some []))) rfl (hst.heap.at_lt hy)
    ·have hm1:=hmk.evo he1
     refine ⟨fun d hd=>?_,?_⟩
     ·simp only [List.singleton_append,List.mem_cons] at hd
      rcases hd with rfl | hd
      ·exact ⟨w.heap.size,rfl,World.alloc_heap_new _ _,fun ho=>by have:=hst.heap.own_lt ho; omega,fun hf=>by have:=(hst.heap.frz _ hf).1; omega,hb.1.size⟩
      ·exact hm1.each d hd
     ·simp only [List.singleton_append,List.pairwise_cons]
      refine ⟨fun d hd ht=>?_,hm1.apart⟩
      obtain ⟨r,q1,q2,_⟩:=hmk.each d hd
      have:=lt_of_some q2
      rw [q1] at ht
      cases ht
      omega
    ·rw [hsz]
     exact run_enterLoop_outer _ _ _ _ _
   | some b =>
    cases ro' with
    | none=>exact hro.elim
    | some l0 =>
    simp only [roHas] at h
    rw [onLp_iff] at h
    obtain ⟨n,q,rfl,hq,h⟩:=h
    obtain ⟨s0,n0,hat0⟩:=hro
    obtain ⟨l1,s1,n1,rec1,hat1,hrec1,_⟩:=lp_at hst.heap hq
    have:=hb.1.keep _ _ (ν0.lt _ _ hat0) hat1
    rw [hat0] at this
    cases this
    have hDn:=hD (by simp)
    subst hDn
    refine fin w [] rec1.defers (core _ _ _ _ h hst.heap (EvoU.refl _ _ _ _) (by simpa using hmk) (fun _=>rfl)) ?_
    exact run_enterLoop_inner hrec1 _ _ _ _ _
theorem K0_of_WY {P:Program} (hm:P.follows .mixedOrders=true) {cfg:Cfg} (hcf:cfg.ok P) (fuel:Nat) {f:FuncId} {fn:Func} (hf:P.funcs[f]? = some fn) {c:Code} (hc:fn.body=some c) {args:List V} {R:V→Prop}
  (hn:(Nat.ble args.length fn.ntmps&&Nat.ble args.length 1000)=true) (h:WY P cfg fuel ⟨⟨0,[]⟩,0,none,fn.ntmps,f,0⟩ c (QendX P fn fun v h=>R (frzW h v)) ⟨start args,⟨[],0,[]⟩⟩):K0G P cfg.glob f args R:=by
 intro F w xs hF hG hxs
 simp only [Bool.and_eq_true] at hn
 obtain ⟨hn,hk⟩:=hn
 have hn:=Nat.le_of_ble_eq_true hn
 have hk:=Nat.le_of_ble_eq_true hk
 have hrl:=riL_repL (ν:=nu0) _ _ hxs
 have hlen:=repL_length hrl
 have hheap:HeapOK nu0 F ⟨[],0,[]⟩ w:=⟨fun b r s n h=>by simp [nu0] at h,fun b o h=>by cases b <;> simp [Hp.get,getB,getF] at h,fun b b' r s n s' n' h=>by simp [nu0] at h,
  fun r hr=>⟨hF r hr,fun ⟨b,s,n,h⟩=>by simp [nu0] at h⟩,rfl,fun _=>rfl⟩
 have hst:StOK [] cfg.glob fn.ntmps nu0 F ⟨start args,⟨[],0,[]⟩⟩ { tmps:=xs.toArray++Array.replicate (fn.ntmps - xs.toArray.size) undef,defers:=[] } w:=⟨hheap,by simp; omega,rfl,start_slotY hG hk hrl _⟩
 have hno : ∀ r, ¬ nu0.own r:=fun r ⟨b,s,n,h⟩=>by simp [nu0] at h
 refine calls_marks hf hc (WY_sound hm hcf fuel ⟨⟨0,[]⟩,0,none,fn.ntmps,f,0⟩ none c _ _ nu0 F _ w nu0 F w [] h hst (EvoU.refl _ _ _ _) rfl trivial .nil (fun _=>rfl)).1 ?_
 rintro e a' w' ⟨ex,ν', F', st', D,h1,h2,h3,h4,_,h5⟩
 have hD : ∀ d∈a'.defers, ∃ r,d={ target := .collected r,args := #[] }∧w'.heap[r]? = some (.deferred (some [])):=by
  rw [h2.defers]
  exact fun d hd=>let ⟨r,q1,q2,_⟩:=h4.each d hd; ⟨r,q1,q2⟩
 have hap:a'.defers.Pairwise fun d d' => d.target≠d'.target:=by rw [h2.defers]; exact h4.apart
 have hS : ∀ r,ofMarks a'.defers r→(¬ν'.own r ∧ ¬F' r)∧w.heap.size≤r:=by
  rintro r ⟨d,hd,ht⟩
  rw [h2.defers] at hd
  obtain ⟨r', q1,_,q3,q4,q5⟩:=h4.each d hd
  rw [q1] at ht
  cases ht
  exact ⟨⟨q3,q4⟩,q5⟩
 have done:(wRes P fn.results st' fun v=>R (frzW st'.h v)) → ∀ wE,Shut (ofMarks a'.defers) w' wE →
   ∃ v,(results fn a'.tmps).run P wE = .ok v wE ∧ ∃ x v' F'', Ending.returned v=Ending.returned x∧R v' ∧ ri F'' wE v' x∧BelowD w.heap.size w wE∧(∀ r,F r→F'' r)∧(∀ r,F'' r→F r∨w.heap.size≤r)∧(∀ r,F'' r→r<wE.heap.size):=by
  intro h5 wE hs
  have h2:=h2.shut hs fun r hr=>(hS r hr).1
  have h3:=h3.1.shut hs fun r hr=>⟨(hS r hr).1.1,(hS r hr).2⟩
  obtain ⟨x,v,g1,g2,g3⟩:=res_sound h2 h5
  obtain ⟨F'', q1,q2,q3⟩:=frzW_sound h2.heap g2
  refine ⟨x,g3,x,_,F'', rfl,g1,q1,⟨⟨h3.os,h3.tape,h3.output,h3.size,fun r hr=>h3.old r hr (hno r)⟩,h3.drawn⟩,fun r hr=>q2 r (h3.fmono r hr),fun r hr=>?_,fun r hr=>?_⟩
  ·rcases q3 r hr with h | h
   ·rcases h3.fnew r h with h | h | h
    ·exact .inl h
    ·exact (hno r h).elim
    ·exact .inr h
   ·exact .inr ((h3.onew r h).resolve_left (hno r))
  ·rcases q3 r hr with h | ⟨b,s,n,h⟩
   ·exact (h2.heap.frz r h).1
   ·exact h2.heap.at_lt h
 cases e <;> cases ex <;> simp only [exOf] at h1
 case normal.norm=>exact ⟨.inl rfl,hD,hap,done h5⟩
 case ret.ret=>exact ⟨.inr rfl,hD,hap,done h5⟩
 case exit.exit i j=>exact h5.elim
noncomputable def ranY (P:Program) (cfg:Cfg) (fuel:Nat) (f:FuncId) (fn:Func) (args:List V) (r:V):Prop :=
 match fn.body with
 | some c=>guardB (Nat.ble args.length fn.ntmps&&Nat.ble args.length 1000) (WY P cfg fuel ⟨⟨0,[]⟩,0,none,fn.ntmps,f,0⟩ c (QendX P fn fun v h=>frzW h v=r) ⟨start args,⟨[],0,[]⟩⟩)
 | none=>False
theorem K0_ranP {P:Program} (hm:P.follows .mixedOrders=true) {cfg:Cfg} (hcf:cfg.ok P) (fuel:Nat) {f:FuncId} {fn:Func} (hf:P.funcs[f]? = some fn) {args:List V} {r:V} {p:Prop} (hp:p) (h:ranY P cfg fuel f fn args r=p):K0G P cfg.glob f args fun v=>v=r:=by
 have h:ranY P cfg fuel f fn args r:=by rw [h]; exact hp
 unfold ranY at h
 split at h
 ·rename_i c hc
  rw [guardB_iff] at h
  exact K0_of_WY hm hcf fuel hf hc h.1 h.2
 ·exact h.elim
def cfgAll (P:Program) (glob:Nat→Option (List V)) (clean:FuncId→Bool) (known:FuncId→List V→Option V):Cfg where
 C0:=callsM P glob (fun _=>none) (fun _=>2) (fun _=>false) 0
 clean:=clean
 known:=known
theorem cfgAll_ok {P:Program} {glob:Nat→Option (List V)} {clean:FuncId→Bool} {known:FuncId→List V→Option V} (hkn:KnowsY P glob known):(cfgAll P glob clean known).ok P:=⟨callsM_ok (fun _ _ h=>(by cases h)),hkn⟩
def eqW:Value→Value→Bool
 | .int k a,.int l b=>k==l&&decide (a=b)
 | .bool a,.bool b=>a==b
 | .slice none 0 0,.slice none 0 0=>true
 | _,_=>false
theorem eqW_eq {x y:Value} (h:eqW x y=true):x=y:=by
 unfold eqW at h
 split at h
 ·rw [Bool.and_eq_true] at h
  rw [eq_of_beq h.1,of_decide_eq_true h.2]
 ·rw [eq_of_beq h]
 ·rfl
 ·cases h
mutual
def eqV:V→V→Bool
 | .raw a,.raw b=>eqW a b
 | .lst s a,.lst t b=>s.beq t&&eqVLL a b
 | .agg a,.agg b=>eqVL a b
 | .tup a,.tup b=>eqVL a b
 | _,_=>false
def eqVL:List V→List V→Bool
 | [],[]=>true
 | a::r,b::t=>eqV a b&&eqVL r t
 | _,_=>false
def eqVLL:List (List V)→List (List V)→Bool
 | [],[]=>true
 | a::r,b::t=>eqVL a b&&eqVLL r t
 | _,_=>false
end
mutual
theorem eqV_eq : ∀ {a b:V},eqV a b=true→a=b
 | .raw a,b,h=>by
  cases b <;> simp only [eqV,Bool.false_eq_true] at h
  rw [eqW_eq h]
 | .lst s a,b,h=>by
  cases b <;> simp only [eqV,Bool.false_eq_true,Bool.and_eq_true] at h
  rw [beq_eq h.1,eqVLL_eq h.2]
 | .agg a,b,h=>by
  cases b <;> simp only [eqV,Bool.false_eq_true] at h
  rw [eqVL_eq h]
 | .tup a,b,h=>by
  cases b <;> simp only [eqV,Bool.false_eq_true] at h
  rw [eqVL_eq h]
 | .ptr _ _ _,b,h=>by simp [eqV] at h
 | .sl _ _ _,b,h=>by simp [eqV] at h
 | .sla _ _ _ _,b,h=>by simp [eqV] at h
 | .mp _,b,h=>by simp [eqV] at h
 | .yl _,b,h=>by simp [eqV] at h
 | .lsx _ _,b,h=>by simp [eqV] at h
 | .adr _ _,b,h=>by simp [eqV] at h
 | .fn _ _ _,b,h=>by simp [eqV] at h
 | .junk,b,h=>by simp [eqV] at h
theorem eqVL_eq : ∀ {a b:List V},eqVL a b=true→a=b
 | [],b,h=>by
  cases b
  ·rfl
  ·simp [eqVL] at h
 | a::r,b,h=>by
  cases b with
  | nil=>simp [eqVL] at h
  | cons x t =>
   simp only [eqVL,Bool.and_eq_true] at h
   rw [eqV_eq h.1,eqVL_eq h.2]
theorem eqVLL_eq : ∀ {a b:List (List V)},eqVLL a b=true→a=b
 | [],b,h=>by
  cases b
  ·rfl
  ·simp [eqVLL] at h
 | a::r,b,h=>by
  cases b with
  | nil=>simp [eqVLL] at h
  | cons x t =>
   simp only [eqVLL,Bool.and_eq_true] at h
   rw [eqVL_eq h.1,eqVLL_eq h.2]
end
structure Fact where
 g:FuncId
 args:List V
 r:V
def tableK:List Fact→FuncId→List V→Option V
 | [],_,_=>none
 | f::t,g,vs=>bif f.g.beq g&&eqVL f.args vs then some f.r else tableK t g vs
def Facts (P:Program) (glob:Nat→Option (List V)):List Fact→Prop
 | []=>True
 | f::t=>K0G P glob f.g f.args (fun v=>v=f.r)∧Facts P glob t
theorem tableK_ok {P:Program} {glob:Nat→Option (List V)} : ∀ {l:List Fact},Facts P glob l→KnowsY P glob (tableK l)
 | [],_,g,vs,r,h=>by cases h
 | f::t,hf,g,vs,r,h=>by
  simp only [tableK] at h
  cases hb:f.g.beq g&&eqVL f.args vs with
  | true =>
   rw [hb] at h
   simp only [cond_true,Option.some.injEq] at h
   rw [Bool.and_eq_true] at hb
   rw [← beq_eq hb.1,← eqVL_eq hb.2,← h]
   exact hf.1
  | false =>
   rw [hb] at h
   exact tableK_ok hf.2 g vs r h
theorem knowsY_none {P:Program} {glob:Nat→Option (List V)}:KnowsY P glob fun _ _=>none:=fun g vs r h=>by cases h
end Go.Proofs.YtkkgicjioajimaaDoor.Clean
