/- A part of the proof. -/
import Derived.Scope
import Derived.IntWalk
import Derived.KernelRfl
import Derived.Test.YtkkgicjioajimaaDoorXA7G6
namespace Go.Proofs.YtkkgicjioajimaaDoor.Clean
set_option linter.unusedSimpArgs false
set_option linter.unusedVariables false
structure Bse (m n:Nat) (ν0:Nu) (F0:Nat→Prop) (w0:World) (ν:Nu) (F:Nat→Prop) (w:World):Prop where
 os:w.os=w0.os
 tape:w.tape=w0.tape
 output:w.output=w0.output
 size:w0.heap.size≤w.heap.size
 old : ∀ r,r<w0.heap.size → ¬ ν0.own r→w.heap[r]? = w0.heap[r]?
 fmono : ∀ r,F0 r→F r
 fnew : ∀ r,F r→F0 r∨ν0.own r∨w0.heap.size≤r
 onew : ∀ r,ν.own r→ν0.own r∨w0.heap.size≤r
 keep : ∀ b x,b<n→ν.at_ (.p b)=some x→ν0.at_ (.p b)=some x
 nxt:n≤ν.nxt
 kph : ∀ b,b<n→ν.ph (.p b)=true→ν0.ph (.p b)=true
 frm : ∀ b y,ν0.at_ b=some y→b.low m=true→w.heap[y.1]? = w0.heap[y.1]? ∧ ν.at_ b=some y
 len : ∀ b r s m,b<n→ν.at_ (.p b)=some (r,s,m) → ∀ c e fr,w0.heap[r]? = some (.cells c e fr) → ∃ c', w.heap[r]? = some (.cells c' e fr)∧c'.size=c.size
 drawn:w0.drawn≤w.drawn
theorem Bse.refl {m n:Nat} {ν:Nu} (F:Nat→Prop) (w:World) (hn:n≤ν.nxt):Bse m n ν F w ν F w :=
 ⟨rfl,rfl,rfl,Nat.le_refl _,fun _ _ _=>rfl,fun _ h=>h,fun _ h => .inl h,fun _ h => .inl h,fun _ _ _ h=>h,hn,fun _ _ h=>h,fun _ _ h _=>⟨rfl,h⟩,fun _ _ _ _ _ _ c _ _ h=>⟨c,h,rfl⟩,Nat.le_refl _⟩
theorem Bse.evo {m n:Nat} {ν0:Nu} {F0:Nat→Prop} {w0:World} {ν ν' : Nu} {F F' : Nat→Prop} {w w' : World} (h:Bse m n ν0 F0 w0 ν F w) (k' : EvoU (fun b=>b.low m) ν F w ν' F' w'):Bse m n ν0 F0 w0 ν' F' w' :=
 have k:=k'.1
 {
 keep b x hb hx:=h.keep b x hb (k.keep (.p b) x (Nat.lt_of_lt_of_le hb h.nxt) hx)
 nxt:=Nat.le_trans h.nxt k.nxt
 drawn:=Nat.le_trans h.drawn k.drawn
 kph b hb hx:=h.kph b hb (k.kph (.p b) (Nat.lt_of_lt_of_le hb h.nxt) hx)
 frm b y hy hb:=by
  obtain ⟨h1,h2⟩:=h.frm b y hy hb
  obtain ⟨h3,h4⟩:=k'.2 b y h2 hb
  exact ⟨h3.trans h1,h4⟩
 len b r s m hb hx c e fr hc:=by
  have h1:=k.keep (.p b) _ (Nat.lt_of_lt_of_le hb h.nxt) hx
  obtain ⟨c1,g1,g2⟩:=h.len b r s m hb h1 c e fr hc
  obtain ⟨c2,g3,g4⟩:=k.len (.p b) r s m h1 hx c1 e fr g1
  exact ⟨c2,g3,g4.trans g2⟩
 os:=k.os.trans h.os
 tape:=k.tape.trans h.tape
 output:=k.output.trans h.output
 size:=Nat.le_trans h.size k.size
 old r hr ho:=by
  rw [k.old r (Nat.lt_of_lt_of_le hr h.size) (fun h' => (h.onew r h').elim ho (fun h'' => absurd hr (by omega)))]
  exact h.old r hr ho
 fmono r hr:=k.fmono r (h.fmono r hr)
 fnew r hr:=by
  rcases k.fnew r hr with h1 | h1 | h1
  ·exact h.fnew r h1
  ·exact (h.onew r h1).elim (fun h => .inr (.inl h)) (fun h => .inr (.inr h))
  ·exact .inr (.inr (Nat.le_trans h.size h1))
 onew r hr:=by
  rcases k.onew r hr with h1 | h1
  ·exact h.onew r h1
  ·exact .inr (Nat.le_trans h.size h1) }
theorem Bse.own {m n:Nat} {ν0:Nu} {F0:Nat→Prop} {w0:World} {ν ν' : Nu} {F:Nat→Prop} {w:World} (h:Bse m n ν0 F0 w0 ν F w) (k : ∀ r,ν'.own r→ν.own r) (hb:n≤ν'.nxt∧(∀ b x,b<n→ν'.at_ (.p b)=some x→ν.at_ (.p b)=some x) ∧ ∀ b,b<n→ν'.ph (.p b)=true→ν.ph (.p b)=true)
  (ha : ∀ b y,b.low m=true→ν.at_ b=some y→ν'.at_ b=some y):Bse m n ν0 F0 w0 ν' F w :=
 { h with onew:=fun r hr=>h.onew r (k r hr),keep:=fun b x hn hx=>h.keep b x hn (hb.2.1 b x hn hx),nxt:=hb.1,len:=fun b r s m hn hx=>h.len b r s m hn (hb.2.1 b _ hn hx),kph:=fun b hn hx=>h.kph b hn (hb.2.2 b hn hx),frm:=fun b y hy hm=>⟨(h.frm b y hy hm).1,ha b y hm (h.frm b y hy hm).2⟩ }
theorem cnt_none {ν:Nu} {F:Nat→Prop} {h:Hp} {w:World} (hk:HeapOK ν F h w) (hf:h.fs.isEmpty=true) (B:Nat):ν.cnt B=0:=by
 rw [hk.cnt B,List.isEmpty_iff.1 hf]; rfl
def exOf:Exit→Ex→Prop
 | .normal,.norm=>True
 | .exit i,.exit j=>i=j
 | .ret,.ret=>True
 | _,_=>False
section
variable {P:Program} {C:Calling} {N nb:Nat} {kps:Nat→Keep} {ν0:Nu} {F0:Nat→Prop} {w0:World}
def nu0:Nu:=⟨fun _=>none,0,fun _=>0,by simp,fun _=>false,by simp⟩
theorem start_get : ∀ (args:List V) (i:Nat),i+args.length≤1000000 → ∀ t v,(mkT ((args.zipIdx i).map fun p=>(p.2,p.1))).get t=some v→i≤t∧args[t - i]? = some v
 | [],i,_,t,v,h=>by simp [mkT,T.get] at h
 | u::args,i,hl,t,v,h=>by
  simp only [List.zipIdx_cons,List.map,mkT] at h
  simp only [List.length_cons] at hl
  rw [get_set (by omega)] at h
  by_cases ht:t=i
  ·subst ht; simp at h; subst h; simp
  ·rw [if_neg ht] at h
   obtain ⟨h1,h2⟩:=start_get args (i+1) (by omega) t v h
   refine ⟨by omega,?_⟩
   rw [show t - i=(t - (i+1))+1 by omega,List.getElem?_cons_succ]
   exact h2
theorem K.mono {G:Nat→Option (List V)} {f:FuncId} {args:List V} {h:Hp} {t:Id→Bool} {R R' : V→Hp→Prop} (hk:K P G f args h t R) (hr : ∀ v h', R v h' → R' v h'):K P G f args h t R' :=
 fun ν F w xs h1 h2 h3=>(hk ν F w xs h1 h2 h3).mono fun e w' ⟨x,v,ν', F', h', g1,g2,g3⟩=>⟨x,v,ν', F', h', g1,hr v h' g2,g3⟩
theorem K0G.mono {G:Nat→Option (List V)} {f:FuncId} {args:List V} {R R' : V→Prop} (h:K0G P G f args R) (hr : ∀ v,R v→R' v):K0G P G f args R' :=
 fun F w xs hF hG hxs=>(h F w xs hF hG hxs).mono fun e w' ⟨x,v,F', h1,h2,h3⟩=>⟨x,v,F', h1,hr v h2,h3⟩
theorem K0.mono {f:FuncId} {args:List V} {R R' : V→Prop} (h:K0 P f args R) (hr : ∀ v,R v→R' v):K0 P f args R' := K0G.mono h hr
theorem K0G.to {G:Nat→Option (List V)} {f:FuncId} {args:List V} {r:V} {R:V→Prop} (h:K0G P G f args (fun v=>v=r)) (hr:R r):K0G P G f args R:=h.mono fun v hv=>hv ▸ hr
inductive DS (m:Nat) (h:Hp):List Nat→V→V→List Nat→Prop where
 | sl {used:List Nat} {b s len:Nat} {p:Bool} {es:List (List V)} (hb:h.get (.p b)=some (.rows s p es)) (hm:m≤b) (hu:b ∉ used) (hs:s≠0) (hc:(p || es.all closedL)=true):DS m h used (.sl (.p b) 0 len) (.lst s (sub es 0 len)) (b::used)
 | raw {used:List Nat} {x:Value}:DS m h used (.raw x) (.raw x) used
inductive DE (m:Nat) (h:Hp):List Nat→List V→List V→List Nat→Prop where
 | nil {used:List Nat}:DE m h used [] [] used
 | cons {u u1 u2:List Nat} {v d:V} {vs ds:List V} (h1:DS m h u v d u1) (h2:DE m h u1 vs ds u2):DE m h u (v::vs) (d::ds) u2
inductive DA (m:Nat) (h:Hp):List Nat→V→V→List Nat→Prop where
 | agg {u u1:List Nat} {cs ds:List V} (h1:DE m h u cs ds u1):DA m h u (.agg cs) (.agg ds) u1
 | one {u u1:List Nat} {v d:V} (h1:DS m h u v d u1):DA m h u v d u1
inductive DL (m:Nat) (h:Hp):List Nat→List V→List V→List Nat→Prop where
 | nil {used:List Nat}:DL m h used [] [] used
 | cons {u u1 u2:List Nat} {v d:V} {vs ds:List V} (h1:DA m h u v d u1) (h2:DL m h u1 vs ds u2):DL m h u (v::vs) (d::ds) u2
inductive DT (m:Nat) (h:Hp):V→V→Prop where
 | tup {u1:List Nat} {vs ds:List V} (h1:DL m h [] vs ds u1):DT m h (.tup vs) (.tup ds)
 | one {u1:List Nat} {v d:V} (h1:DA m h [] v d u1):DT m h v d
theorem dataS_D {m:Nat} {h:Hp} {used:List Nat} {v:V} {k:V→List Nat→Prop} (hd:dataS m h used v k) : ∃ d u,DS m h used v d u∧k d u:=by
 unfold dataS at hd
 split at hd
 ·rw [onRows_iff] at hd
  obtain ⟨s,p,es,hb,hd⟩:=hd
  simp only [guardB_iff,Bool.and_eq_true,Bool.not_eq_true'] at hd
  obtain ⟨⟨⟨⟨h1,h2⟩,h3⟩,h4⟩,hd⟩:=hd
  refine ⟨_,_,.sl hb (Nat.le_of_ble_eq_true h1) (fun hm=>?_) (fun h0=>by subst h0; simp at h3) h4,hd⟩
  rw [List.any_eq_false] at h2
  have:=h2 _ hm
  simp at this
 ·exact ⟨_,_,.raw,hd⟩
 ·exact hd.elim
theorem dataE_D {m:Nat} {h:Hp} : ∀ {vs:List V} {used:List Nat} {k:List V→List Nat→Prop},dataE m h used vs k → ∃ ds u,DE m h used vs ds u∧k ds u
 | [],used,k,hd=>⟨_,_,.nil,hd⟩
 | v::vs,used,k,hd=>by
  simp only [dataE] at hd
  obtain ⟨d,u,h1,hd⟩:=dataS_D hd
  obtain ⟨ds,u', h2,hd⟩:=dataE_D hd
  exact ⟨_,_,.cons h1 h2,hd⟩
theorem dataA_D {m:Nat} {h:Hp} {used:List Nat} {v:V} {k:V→List Nat→Prop} (hd:dataA m h used v k) : ∃ d u,DA m h used v d u∧k d u:=by
 unfold dataA at hd
 split at hd
 ·obtain ⟨ds,u,h1,hd⟩:=dataE_D hd
  exact ⟨_,_,.agg h1,hd⟩
 ·obtain ⟨d,u,h1,hd⟩:=dataS_D hd
  exact ⟨_,_,.one h1,hd⟩
theorem dataL_D {m:Nat} {h:Hp} : ∀ {vs:List V} {used:List Nat} {k:List V→List Nat→Prop},dataL m h used vs k → ∃ ds u,DL m h used vs ds u∧k ds u
 | [],used,k,hd=>⟨_,_,.nil,hd⟩
 | v::vs,used,k,hd=>by
  simp only [dataL] at hd
  obtain ⟨d,u,h1,hd⟩:=dataA_D hd
  obtain ⟨ds,u', h2,hd⟩:=dataL_D hd
  exact ⟨_,_,.cons h1 h2,hd⟩
theorem dataT_D {m:Nat} {h:Hp} {v:V} {k:V→Prop} (hd:dataT m h v k) : ∃ d,DT m h v d∧k d:=by
 unfold dataT at hd
 split at hd
 ·obtain ⟨ds,u,h1,hd⟩:=dataL_D hd
  exact ⟨_,.tup h1,hd⟩
 ·obtain ⟨d,u,h1,hd⟩:=dataA_D hd
  exact ⟨_,.one h1,hd⟩
def KB (P:Program) (G:Nat→Option (List V)) (f:FuncId) (args:List V) (h0:Hp) (R:V→Prop):Prop :=
 ∀ (ν:Nu) (F:Nat→Prop) (w:World) (xs:List Value),HeapOK ν F h0 w→GlobOK G F w→repL F w ν args xs →
  Calls P f xs.toArray w fun e w' => ∃ x v d ν' F' h', e = .returned x∧R d∧DT h0.nxt h' v d∧HeapOK ν' F' h' w' ∧ rep F' w' ν' v x∧Evo ν F w ν' F' w' ∧ ∀ b y,ν.at_ b=some y→w'.heap[y.1]? = w.heap[y.1]? ∧ ν'.at_ b=some y
theorem KB.mono {G:Nat→Option (List V)} {f:FuncId} {args:List V} {h:Hp} {R R' : V→Prop} (hk:KB P G f args h R) (hr : ∀ v,R v→R' v):KB P G f args h R' :=
 fun ν F w xs h1 h2 h3=>(hk ν F w xs h1 h2 h3).mono fun e w' ⟨x,v,d,ν', F', h', g1,g2,g3⟩=>⟨x,v,d,ν', F', h', g1,hr d g2,g3⟩
mutual
theorem rep_addPh {F:Nat→Prop} {w:World} {ν:Nu} : ∀ (v:V) (x:Value),rep F w ν v x→rep F w ν.addPh v x
 | .raw v,x,h=>by simp only [rep] at h ⊢; exact h
 | .ptr b i off,x,hr=>by
  simp only [rep] at hr ⊢
  refine ⟨⟨Id.lt_le hr.1.1 (Nat.le_succ _),by simp only [Nu.addPh]; rw [if_neg (Id.ne_new hr.1.1)]; exact hr.1.2⟩,fun r' s' n' hb=>hr.2 r' s' n' ?_⟩
  simp only [Nu.addPh] at hb
  rwa [if_neg (Id.ne_new hr.1.1)] at hb
 | .mp b,x,hr=>by
  simp only [rep] at hr ⊢
  refine ⟨Id.lt_le hr.1 (Nat.le_succ _),fun r' s' n' hb=>hr.2 r' s' n' ?_⟩
  simp only [Nu.addPh] at hb
  rwa [if_neg (Id.ne_new hr.1)] at hb
 | .yl b,x,hr=>by
  simp only [rep] at hr ⊢
  refine ⟨Id.lt_le hr.1 (Nat.le_succ _),fun r' s' n' hb=>hr.2 r' s' n' ?_⟩
  simp only [Nu.addPh] at hb
  rwa [if_neg (Id.ne_new hr.1)] at hb
 | .sla b i off len,x,hr=>by
  simp only [rep] at hr ⊢
  refine ⟨⟨Id.lt_le hr.1.1 (Nat.le_succ _),by simp only [Nu.addPh]; rw [if_neg (Id.ne_new hr.1.1)]; exact hr.1.2⟩,fun r' s' n' hb=>hr.2 r' s' n' ?_⟩
  simp only [Nu.addPh] at hb
  rwa [if_neg (Id.ne_new hr.1.1)] at hb
 | .sl b lo len,x,hr=>by
  simp only [rep] at hr ⊢
  refine ⟨⟨Id.lt_le hr.1.1 (Nat.le_succ _),fun hq=>hr.1.2 (by simp only [Nu.addPh] at hq; rwa [if_neg (Id.ne_new hr.1.1)] at hq)⟩,fun r' s' n' hb=>hr.2 r' s' n' ?_⟩
  simp only [Nu.addPh] at hb
  rwa [if_neg (Id.ne_new hr.1.1)] at hb
 | .lst s es,x,hr=>by simp only [rep] at hr ⊢; exact hr
 | .lsx s es,x,hr=>by simp only [rep] at hr ⊢; exact hr
 | .adr cs off,x,hr=>by simp only [rep] at hr ⊢; exact hr
 | .fmp es,x,hr=>by simp only [rep] at hr ⊢; exact hr
 | .agg cs,x,hr=>by
  simp only [rep] at hr ⊢
  obtain ⟨vs,h1,h2⟩:=hr
  exact ⟨vs,h1,repL_addPh cs _ h2⟩
 | .tup cs,x,hr=>by
  simp only [rep] at hr ⊢
  obtain ⟨vs,h1,h2⟩:=hr
  exact ⟨vs,h1,repL_addPh cs _ h2⟩
 | .fn f a c,x,hr=>by
  simp only [rep] at hr ⊢
  obtain ⟨as,cs,h1,h2,h3⟩:=hr
  exact ⟨as,cs,h1,repL_addPh a _ h2,repL_addPh c _ h3⟩
 | .junk,_,_=>by simp only [rep]
theorem repL_addPh {F:Nat→Prop} {w:World} {ν:Nu} : ∀ (vs:List V) (xs:List Value),repL F w ν vs xs→repL F w ν.addPh vs xs
 | [],xs,hr=>by simp only [repL] at hr ⊢; exact hr
 | v::vs,xs,hr=>by
  simp only [repL] at hr ⊢
  obtain ⟨x,ys,h1,h2,h3⟩:=hr
  exact ⟨x,ys,h1,rep_addPh v x h2,repL_addPh vs ys h3⟩
end
structure Thaw (ν:Nu) (F:Nat→Prop) (w:World) (ν0 ν' : Nu) (F' : Nat→Prop) (h' : Hp) (w' : World) (used:List Nat) (ν2:Nu) (h2:Hp):Prop where
 heap:HeapOK ν2 F' h2 w'
 evo:EvoU (fun _=>true) ν F w ν2 F' w'
 own : ∀ r,ν2.own r→r<w.heap.size ∨ ∃ b s n,b∈used∧ν'.at_ (.p b)=some (r,s,n)
section
variable {ν:Nu} {F:Nat→Prop} {w:World} {ν0 ν' : Nu} {F' : Nat→Prop} {h' : Hp} {w' : World} {m:Nat}
theorem thawD_sound (hh:HeapOK ν' F' h' w') (hon : ∀ b r s n,m≤b→ν'.at_ (.p b)=some (r,s,n)→w.heap.size≤r) {used u1:List Nat} {ν2:Nu} {h2:Hp} (hI:Thaw ν F w ν0 ν' F' h' w' used ν2 h2) {d:TypeDesc} {v dv:V} {x:Value} {k:V→Hp→Prop}
  (ht:thawD P d dv h2 k) (hD:DS m h' used v dv u1) (hr:rep F' w' ν' v x) : ∃ v3 ν3 h3,k v3 h3∧rep F' w' ν3 v3 x∧Thaw ν F w ν0 ν' F' h' w' u1 ν3 h3 ∧ ∀ u y,rep F' w' ν2 u y→rep F' w' ν3 u y:=by
 have raw : ∀ z,dv = .raw z→k (.raw z) h2 → ∃ v3 ν3 h3,k v3 h3∧rep F' w' ν3 v3 x∧Thaw ν F w ν0 ν' F' h' w' u1 ν3 h3 ∧ ∀ u y,rep F' w' ν2 u y→rep F' w' ν3 u y:=fun z hz hk=>by
  subst hz
  cases hD
  exact ⟨_,ν2,h2,hk,by simpa [rep] using hr,hI,fun _ _ h=>h⟩
 have nil : ∀ s,k (.sl (.p h2.nxt) 0 0) (h2.add (.rows s true []))→x = .slice none 0 0→(∀ b∈used,b∈u1) → ∃ v3 ν3 h3,k v3 h3∧rep F' w' ν3 v3 x∧Thaw ν F w ν0 ν' F' h' w' u1 ν3 h3 ∧ ∀ u y,rep F' w' ν2 u y→rep F' w' ν3 u y:=fun s hk hx hu=>by
  obtain ⟨kh,eh⟩:=heap_ph hI.heap s true
  have hn:=hI.heap.nxt
  refine ⟨_,ν2.addPh,_,hk,?_,⟨kh,⟨hI.evo.1.trans eh,fun b y hy hb=>?_⟩,fun r ⟨b,s', n', hb⟩=>?_⟩,fun u y=>rep_addPh u y⟩
  ·subst hx
   simp only [rep]
   refine ⟨⟨by simp [Nu.addPh,hn,Id.lt],by simp⟩,fun r s n hat=>?_⟩
   simp [Nu.addPh,hn] at hat
  ·obtain ⟨q1,q2⟩:=hI.evo.2 b y hy hb
   have:=ν2.lt b _ q2
   refine ⟨q1,?_⟩
   simp only [Nu.addPh]
   rw [if_neg (Id.ne_new this)]; exact q2
  ·simp only [Nu.addPh] at hb
   split at hb
   ·cases hb
   ·rcases hI.own r ⟨b,s', n', hb⟩ with h | ⟨b', s'', n'', h1,h2⟩
    ·exact .inl h
    ·exact .inr ⟨b', s'', n'', hu _ h1,h2⟩
 unfold thawD at ht
 split at ht
 ·rename_i e
  rw [onSome_iff] at ht
  obtain ⟨inf,hi,ht⟩:=ht
  rw [onLst_iff] at ht
  rcases ht with ⟨s,es,rfl,ht⟩ | ⟨rfl,ht⟩
  ·rw [guardB_iff] at ht
   obtain ⟨hs,hk⟩:=ht
   cases hD with
   | sl hb hm hu hs0 hc =>
   rename_i b len p es
   have hs:s=inf.size:=by
    simp only [Bool.or_eq_true] at hs
    rcases hs with hs | hs
    ·exact beq_eq hs
    ·exact (hs0 (beq_eq hs)).elim
   subst hs
   simp only [rep] at hr
   rcases hh.dom _ _ hb with ⟨⟨r,s', n⟩,hat⟩ | ⟨hp,s', p', he⟩
   ·obtain ⟨rfl,g2,c,el,g3,g4,g5⟩:=hh.blkR hb hat
    obtain ⟨q1,cap,q2,⟨o', ho', rfl⟩,c2,el2,fr2,q3,q4⟩:=hr.2 r inf.size n hat
    obtain rfl:=ho'.resolve_right (fun h=>h.2 rfl)
    rw [g3] at q3
    simp at q3
    obtain ⟨rfl,rfl,rfl⟩:=q3
    simp only [Nat.zero_add,Nat.zero_mul] at q1 q4 ⊢
    have hlen:(sub es 0 len).length=len:=by simp [sub]; omega
    have hnown : ¬ν2.own r:=fun ho=>by
     rcases hI.own r ho with h | ⟨b', s', n', h1,h2⟩
     ·have:=hon b r inf.size n hm hat; omega
     ·have:=hh.inj (.p b') (.p b) r s' n' inf.size n h2 hat; simp at this; exact hu (this ▸ h1)
    have hnF : ¬F' r:=fun hf=>(hh.frz r hf).2 ⟨_,inf.size,n,hat⟩
    have hn2:=hI.heap.nxt
    have hrows:rowsC (repO F' w' ν2 true) c inf.size (sub es 0 len) 0:=by
     rw [rowsC_iff] at g5 ⊢
     intro i row hrow
     simp only [sub,List.drop_zero,List.getElem?_take] at hrow
     split at hrow
     ·obtain ⟨k1,k2⟩:=g5 i row hrow
      refine ⟨k1,fun j v hj=>?_⟩
      obtain ⟨y,k3,k4,k5⟩:=k2 j v hj
      refine ⟨y,k3,k4,?_⟩
      unfold repO at k5 ⊢
      cases p with
      | true=>exact k5
      | false =>
       simp only [Bool.false_or,List.all_eq_true] at hc
       exact rep_ri v y (closedL_mem (hc row (List.mem_of_getElem? hrow)) (List.mem_of_getElem? hj)) k5
     ·cases hrow
    have had:=heap_adopt hI.heap g3 hnown hnF (by rw [hlen]; have:=Nat.mul_le_mul_right inf.size q1; omega) hrows
    refine ⟨_,_,_,hk,?_,⟨had,evoU_adopt hI.evo (hon b r inf.size n hm hat),fun r' ho=>?_⟩,fun u y=>rep_add u y⟩
    ·rw [hlen]
     exact rep_sl0 (n:=len) (by simp [Nu.add,hn2]) (by simp [Nu.add,hn2]) (fun y hy=>by simp [Nu.add,hn2,hlen] at hy; exact hy.symm) (Nat.le_refl _) q2 g3 q4
    ·obtain ⟨b', s', n', hb'⟩:=ho
     simp only [Nu.add] at hb'
     split at hb'
     ·simp at hb'
      exact .inr ⟨b,_,_,by simp,by rw [← hb'.1]; exact hat⟩
     ·rcases hI.own r' ⟨b', s', n', hb'⟩ with h | ⟨b'', s'', n'', h1,h2⟩
      ·exact .inl h
      ·exact .inr ⟨b'', s'', n'', by simp [h1],h2⟩
   ·simp only [O.rows.injEq] at he
    obtain ⟨_,_,rfl⟩:=he
    obtain ⟨_,h0,rfl⟩:=hr.1.2 hp
    exact nil inf.size (by simpa [sub] using hk) rfl (fun b hb=>by simp [hb])
  ·rw [guardB_iff] at ht
   cases hD
   simp only [rep] at hr
   exact nil inf.size (by simpa using ht.2) hr (fun b hb=>hb)
 ·rw [onIntK_iff] at ht
  obtain ⟨n,hz,hk⟩:=ht
  exact raw _ hz hk
 ·rw [onBool_iff] at ht
  obtain ⟨n,hz,hk⟩:=ht
  exact raw _ hz hk
 ·rw [onStr_iff] at ht
  obtain ⟨n,hz,hk⟩:=ht
  exact raw _ hz hk
 ·exact ht.elim
theorem thawE_sound (hh:HeapOK ν' F' h' w') (hon : ∀ b r s n,m≤b→ν'.at_ (.p b)=some (r,s,n)→w.heap.size≤r) : ∀ {ds:List TypeDesc} {used u1:List Nat} {ν2:Nu} {h2:Hp} {vs dvs:List V} {xs:List Value} {k:List V→Hp→Prop},Thaw ν F w ν0 ν' F' h' w' used ν2 h2 →
  thawE P ds dvs h2 k→DE m h' used vs dvs u1→repL F' w' ν' vs xs → ∃ vs3 ν3 h3,k vs3 h3∧repL F' w' ν3 vs3 xs∧Thaw ν F w ν0 ν' F' h' w' u1 ν3 h3 ∧ ∀ u y,rep F' w' ν2 u y→rep F' w' ν3 u y
 | [],used,u1,ν2,h2,vs,dvs,xs,k,hI,ht,hD,hr=>by
  simp only [thawE,onNil_iff] at ht
  obtain ⟨rfl,hk⟩:=ht
  cases hD
  exact ⟨[],ν2,h2,hk,by simpa [repL] using hr,hI,fun _ _ h=>h⟩
 | d::ds,used,u1,ν2,h2,vs,dvs,xs,k,hI,ht,hD,hr=>by
  simp only [thawE,onCons_iff] at ht
  obtain ⟨dv,dvs', rfl,ht⟩:=ht
  cases hD with
  | cons hD1 hD2 =>
  simp only [repL] at hr
  obtain ⟨x,xs', rfl,hr1,hr2⟩:=hr
  obtain ⟨v3,ν3,h3,ht,hr3,hI3,mono⟩:=thawD_sound hh hon hI ht hD1 hr1
  obtain ⟨vs4,ν4,h4,hk,hr4,hI4,mono4⟩:=thawE_sound hh hon hI3 ht hD2 hr2
  exact ⟨_,ν4,h4,hk,by simp only [repL]; exact ⟨x,xs', rfl,mono4 _ _ hr3,hr4⟩,hI4,fun u y h=>mono4 _ _ (mono _ _ h)⟩
theorem thawS_sound (hh:HeapOK ν' F' h' w') (hon : ∀ b r s n,m≤b→ν'.at_ (.p b)=some (r,s,n)→w.heap.size≤r) {used u1:List Nat} {ν2:Nu} {h2:Hp} (hI:Thaw ν F w ν0 ν' F' h' w' used ν2 h2) {t:TypeId} {v dv:V} {x:Value} {k:V→Hp→Prop}
  (ht:thawS P t dv h2 k) (hD:DA m h' used v dv u1) (hr:rep F' w' ν' v x) : ∃ v3 ν3 h3,k v3 h3∧rep F' w' ν3 v3 x∧Thaw ν F w ν0 ν' F' h' w' u1 ν3 h3 ∧ ∀ u y,rep F' w' ν2 u y→rep F' w' ν3 u y:=by
 unfold thawS at ht
 rw [onSome_iff] at ht
 obtain ⟨d,hd,ht⟩:=ht
 have agg:onAgg dv (fun cs=>thawE P (kinds P 8 t) cs h2 fun cs h=>k (.agg cs) h) → ∃ v3 ν3 h3,k v3 h3∧rep F' w' ν3 v3 x∧Thaw ν F w ν0 ν' F' h' w' u1 ν3 h3 ∧ ∀ u y,rep F' w' ν2 u y→rep F' w' ν3 u y:=fun hg=>by
  rw [onAgg_iff] at hg
  obtain ⟨cs,rfl,hg⟩:=hg
  cases hD with
  | one hD=>cases hD
  | agg hD =>
   simp only [rep] at hr
   obtain ⟨xs,rfl,hr⟩:=hr
   obtain ⟨vs3,ν3,h3,hk,hr3,hI3,mono⟩:=thawE_sound hh hon hI hg hD hr
   exact ⟨_,ν3,h3,hk,by simp only [rep]; exact ⟨xs,rfl,hr3⟩,hI3,mono⟩
 split at ht
 ·exact agg ht
 ·exact agg ht
 ·exact ht.elim
 ·rename_i hns hna hnt
  cases hD with
  | one hD=>exact thawD_sound hh hon hI ht hD hr
  | agg hD =>
   exfalso
   unfold thawD at ht
   split at ht
   ·rw [onSome_iff] at ht
    obtain ⟨inf,_,ht⟩:=ht
    simp [onLst] at ht
   ·simp [onIntK] at ht
   ·simp [onBool] at ht
   ·simp [onStr] at ht
   ·exact ht
theorem thawL_sound (hh:HeapOK ν' F' h' w') (hon : ∀ b r s n,m≤b→ν'.at_ (.p b)=some (r,s,n)→w.heap.size≤r) : ∀ {ts:List TypeId} {used u1:List Nat} {ν2:Nu} {h2:Hp} {vs dvs:List V} {xs:List Value} {k:List V→Hp→Prop},Thaw ν F w ν0 ν' F' h' w' used ν2 h2 →
  thawL P ts dvs h2 k→DL m h' used vs dvs u1→repL F' w' ν' vs xs → ∃ vs3 ν3 h3,k vs3 h3∧repL F' w' ν3 vs3 xs∧Thaw ν F w ν0 ν' F' h' w' u1 ν3 h3 ∧ ∀ u y,rep F' w' ν2 u y→rep F' w' ν3 u y
 | [],used,u1,ν2,h2,vs,dvs,xs,k,hI,ht,hD,hr=>by
  simp only [thawL,onNil_iff] at ht
  obtain ⟨rfl,hk⟩:=ht
  cases hD
  exact ⟨[],ν2,h2,hk,by simpa [repL] using hr,hI,fun _ _ h=>h⟩
 | t::ts,used,u1,ν2,h2,vs,dvs,xs,k,hI,ht,hD,hr=>by
  simp only [thawL,onCons_iff] at ht
  obtain ⟨dv,dvs', rfl,ht⟩:=ht
  cases hD with
  | cons hD1 hD2 =>
  simp only [repL] at hr
  obtain ⟨x,xs', rfl,hr1,hr2⟩:=hr
  obtain ⟨v3,ν3,h3,ht,hr3,hI3,mono⟩:=thawS_sound hh hon hI ht hD1 hr1
  obtain ⟨vs4,ν4,h4,hk,hr4,hI4,mono4⟩:=thawL_sound hh hon hI3 ht hD2 hr2
  exact ⟨_,ν4,h4,hk,by simp only [repL]; exact ⟨x,xs', rfl,mono4 _ _ hr3,hr4⟩,hI4,fun u y h=>mono4 _ _ (mono _ _ h)⟩
theorem thawT_sound (hh:HeapOK ν' F' h' w') (hon : ∀ b r s n,m≤b→ν'.at_ (.p b)=some (r,s,n)→w.heap.size≤r) {ν2:Nu} {h2:Hp} (hI:Thaw ν F w ν0 ν' F' h' w' [] ν2 h2) {t:TypeId} {v dv:V} {x:Value} {k:V→Hp→Prop}
  (ht:thawT P t dv h2 k) (hD:DT m h' v dv) (hr:rep F' w' ν' v x) : ∃ v3 ν3 h3,k v3 h3∧rep F' w' ν3 v3 x∧HeapOK ν3 F' h3 w' ∧ EvoU (fun _=>true) ν F w ν3 F' w' := by
 unfold thawT at ht
 rw [onSome_iff] at ht
 obtain ⟨d,hd,ht⟩:=ht
 split at ht
 ·rw [onTup_iff] at ht
  obtain ⟨vs,rfl,ht⟩:=ht
  cases hD with
  | one hD=>cases hD with | one hD=>cases hD
  | tup hD =>
   simp only [rep] at hr
   obtain ⟨xs,rfl,hr⟩:=hr
   obtain ⟨vs3,ν3,h3,hk,hr3,hI3,_⟩:=thawL_sound hh hon hI ht hD hr
   exact ⟨_,ν3,h3,hk,by simp only [rep]; exact ⟨xs,rfl,hr3⟩,hI3.heap,hI3.evo⟩
 ·cases hD with
  | one hD =>
   obtain ⟨v3,ν3,h3,hk,hr3,hI3,_⟩:=thawS_sound hh hon hI ht hD hr
   exact ⟨_,ν3,h3,hk,hr3,hI3.heap,hI3.evo⟩
  | tup hD =>
   exfalso
   unfold thawS at ht
   rw [onSome_iff] at ht
   obtain ⟨d', hd', ht⟩:=ht
   split at ht
   ·simp [onAgg] at ht
   ·simp [onAgg] at ht
   ·exact ht
   ·unfold thawD at ht
    split at ht
    ·rw [onSome_iff] at ht
     obtain ⟨inf,_,ht⟩:=ht
     simp [onLst] at ht
    ·simp [onIntK] at ht
    ·simp [onBool] at ht
    ·simp [onStr] at ht
    ·exact ht
end
theorem ren_nofams {kp:Keep} {h:Hp} (hf:kp.fams=[]):kp.ren h=renOf kp.blocks:=by
 funext x
 unfold Keep.ren
 rcases renOf_cases kp.blocks x with h0 | ⟨b,h0,_⟩
 ·rw [h0,hf]
  cases x <;> rfl
 ·rw [h0]
theorem K_of_KB {G:Nat→Option (List V)} {f:FuncId} {ty:TypeId} {args:List V} {h:Hp} {k:V→Hp→Prop} (hok:(lentOf h args).ok=true)
  (hb:KB P G f (trL (renOf (lentOf h args).blocks) args) ⟨keepBs (renOf (lentOf h args).blocks) [] h (lentOf h args).blocks,(lentOf h args).nxt,[]⟩ (fun v=>thawT P ty v h k)):K P G f args h (fun _=>false) k:=by
 intro ν F w xs hh hG hl
 have hnils:(lentOf h args).nils=[]:=rfl
 have hpu:(lentOf h args).pu=[]:=rfl
 have hfm:(lentOf h args).fams=[]:=rfl
 obtain ⟨kh,ko⟩:=keep_heap hok hh
 rw [hnils,hpu,hfm,ren_nofams hfm] at kh
 have hl' := repL_tr (fun _ h=>h) (keep_tr hok hh) _ _ hl
 rw [ren_nofams hfm] at hl'
 refine (hb _ F w xs (by simpa [nilBs,keepFs] using kh) hG hl').mono fun e w' ⟨x,v,d,ν', F', h', g1,g2,g3,g4,g5,g6,g7⟩=>?_
 have same : ∀ r,r<w.heap.size→w'.heap[r]? = w.heap[r]? := fun r hr=>by
  by_cases ho:(kpNu (lentOf h args) hok h ν).own r
  ·obtain ⟨b,s,n,hat⟩:=ho
   exact (g7 b _ hat).1
  ·exact g6.old r hr ho
 have own_lt : ∀ r,ν.own r→r<w.heap.size:=fun r ho=>hh.own_lt ho
 have nf : ∀ r,F' r → ¬ν.own r:=fun r hf ho=>by
  rcases g6.fnew r hf with h1 | ⟨b,s,n,h1⟩ | h1
  ·exact (hh.frz r h1).2 ho
  ·exact (g4.frz r hf).2 ⟨b,s,n,(g7 b _ h1).2⟩
  ·have:=own_lt r ho; omega
 have e:Evo ν F w ν F' w' := ⟨g6.os,g6.tape,g6.output,g6.size,fun r hr _=>same r hr,g6.fmono,fun r hr=>(g6.fnew r hr).imp id (fun h=>h.imp (ko r) id),fun r hr => .inl hr,fun _ _ _ h=>h,Nat.le_refl _,fun _=>Nat.le_refl _,fun _ _ h=>h,
  fun b r s n hat _ c el fr hc=>⟨c,by rw [same r (lt_of_some hc)]; exact hc,rfl⟩,by first | exact Nat.le_refl _ | exact Nat.le_succ _ | assumption | exact e.drawn | exact he.drawn | exact hb.drawn | exact hb.1.drawn | exact h.drawn | exact g6.drawn | exact h2.drawn | exact ed.drawn | exact e1.drawn | exact hk.drawn | (subst_vars; exact Nat.le_refl _) | (simp; done) | omega⟩
 have hI:Thaw ν F w (kpNu (lentOf h args) hok h ν) ν' F' h' w' [] ν h:=by
  refine ⟨⟨fun b r s n hat=>?_,hh.dom,hh.inj,fun r hr=>⟨(g4.frz r hr).1,nf r hr⟩,hh.nxt,hh.cnt⟩,⟨e,fun b y hy _=>⟨same _ ?_,hy⟩⟩,fun r ho => .inl (own_lt r ho)⟩
  ·obtain ⟨o,z1,z2⟩:=hh.blk b r s n hat
   exact ⟨o,z1,obl_evo hh e (same r (hh.at_lt hat)) z2⟩
  ·obtain ⟨r,s,n⟩:=y
   exact own_lt r ⟨b,s,n,hy⟩
 obtain ⟨v3,ν3,h3,hk,hr3,hh3,he3⟩:=thawT_sound (m:=(lentOf h args).nxt) g4 (fun b r s n hm hat=>by
  rcases g6.onew r ⟨_,s,n,hat⟩ with ⟨b0,s0,n0,h0⟩ | h0
  ·have h1:=(g7 b0 _ h0).2
   have hbb:=g4.inj b0 (.p b) r s0 n0 s n h1 hat
   have:=(kpNu (lentOf h args) hok h ν).lt b0 _ h0
   rw [hbb] at this
   have:b<(lentOf h args).nxt:=this
   omega
  ·exact h0) hI g2 g3 g5
 exact ⟨x,v3,ν3,F', h3,g1,hk,hh3,hr3,he3.1,fun b y hy _=>he3.2 b y hy rfl⟩
mutual
theorem tr_id : ∀ v:V,v.tr (fun b => .ren b)=v
 | .raw _=>by simp [V.tr]
 | .ptr _ _ _=>by simp [V.tr]
 | .sl _ _ _=>by simp [V.tr]
 | .sla _ _ _ _=>by simp [V.tr]
 | .mp _=>by simp [V.tr]
 | .yl _=>by simp [V.tr]
 | .lst _ _=>by simp [V.tr]
 | .lsx _ _=>by simp [V.tr]
 | .adr _ _=>by simp [V.tr]
 | .fmp _=>by simp [V.tr]
 | .agg cs=>by simp [V.tr,trL_id cs]
 | .tup cs=>by simp [V.tr,trL_id cs]
 | .fn _ a c=>by simp [V.tr,trL_id a,trL_id c]
 | .junk=>by simp [V.tr]
theorem trL_id : ∀ l:List V,trL (fun b => .ren b) l=l
 | []=>by simp [trL]
 | v::vs=>by simp [trL,tr_id v,trL_id vs]
end
theorem heap_delAll {F:Nat→Prop} {w:World} : ∀ (bs:List Id) {ν:Nu} {h:Hp},HeapOK ν F h w → ∃ ν', HeapOK ν' F (delAll h bs) w∧Evo ν F w ν' F w∧(∀ b y,ν'.at_ b=some y→ν.at_ b=some y∧b ∉ bs) ∧ ∀ b y,ν.at_ b=some y→b ∉ bs→ν'.at_ b=some y
 | [],ν,h,hk=>⟨ν,hk,Evo.refl _ _ _,fun b y hy=>⟨hy,by simp⟩,fun b y hy _=>hy⟩
 | b0::r,ν,h,hk=>by
  obtain ⟨kd,ed⟩:=heap_del hk b0
  obtain ⟨ν', h1,h2,h3,h4⟩:=heap_delAll r kd
  refine ⟨ν', h1,ed.trans h2,fun b y hy=>?_,fun b y hy hb=>h4 b y (Nu.del_old (fun he=>hb (by simp [he])) hy) (fun hm=>hb (by simp [hm]))⟩
  obtain ⟨h5,h6⟩:=h3 b y hy
  simp only [Nu.del] at h5
  by_cases h0:b=b0
  ·simp [h0] at h5
  ·rw [if_neg h0] at h5
   exact ⟨h5,by simp [h0,h6]⟩
theorem heap_F {ν:Nu} {F F' : Nat→Prop} {h:Hp} {w:World} (hk:HeapOK ν F h w) (hF : ∀ r,F r→F' r) (hn : ∀ r,F' r→r<w.heap.size ∧ ¬ν.own r):HeapOK ν F' h w:=by
 have mono : ∀ v x,rep F w ν v x→rep F' w ν v x:=fun v x hr=>by
  have ht:TrOK F F' w ν ν (fun b => .ren b):=fun b hb=>⟨⟨hb,fun h=>h⟩,fun y hy=>hy⟩
  have:=rep_tr hF ht v x hr
  rwa [tr_id] at this
 refine ⟨fun b r s n hat=>?_,hk.dom,hk.inj,hn,hk.nxt,hk.cnt⟩
 obtain ⟨o,g1,g2⟩:=hk.blk b r s n hat
 refine ⟨o,g1,?_⟩
 cases o with
 | lp q =>
  obtain ⟨rec,k1,k2⟩:=g2
  exact ⟨rec,k1,k2.mono mono⟩
 | it x n seen =>
  obtain ⟨mr,k1,k2⟩:=g2
  exact ⟨mr,k1,mono _ _ k2⟩
 | mp es =>
  obtain ⟨ents,k1,k2,k3⟩:=g2
  exact ⟨ents,k1,k2,fun i kv hi=>let ⟨e,e1,e2,e3,e4⟩:=k3 i kv hi; ⟨e,e1,e2,mono _ _ e3,mono _ _ e4⟩⟩
 | rows s' p es =>
 obtain ⟨rfl,g2,c,el,g3,g4,g5⟩:=g2
 refine ⟨rfl,g2,c,el,g3,g4,?_⟩
 rw [rowsC_iff] at g5 ⊢
 intro i row hrow
 obtain ⟨k1,k2⟩:=g5 i row hrow
 refine ⟨k1,fun j v hj=>?_⟩
 obtain ⟨x,k3,k4,k5⟩:=k2 j v hj
 refine ⟨x,k3,k4,?_⟩
 unfold repO at *
 cases p
 ·exact mono v x k5
 ·exact ri_mono hF (fun _ _=>rfl) v x k5
theorem handT_ok {F F' : Nat→Prop} {w:World} {ν:Nu} {h:Hp} (hh:HeapOK ν F h w) (bs:List Id) (hF : ∀ r,F r→F' r) (hF' : ∀ b r s n,b∈bs→ν.at_ b=some (r,s,n)→F' r):TrOK F F' w ν nu0 (handT h bs):=by
 intro b hb
 unfold handT
 cases hm:bs.any b.beq with
 | false=>simp
 | true =>
  have hbm:b∈bs:=by
   obtain ⟨c,hc,he⟩:=List.any_eq_true.1 hm
   exact Id.beq_iff.1 he ▸ hc
  simp only [cond_true]
  cases b with
  | m B k=>simp [frzT]
  | p b =>
  cases hg:h.get (.p b) with
  | none =>
   have hg' : getB h.bs b=none:=hg
   simp [frzT,hg']
  | some o =>
   have hg' : getB h.bs b=some o:=hg
   by_cases hph:ν.ph (.p b)=true
   ·obtain ⟨s,p,rfl⟩ : ∃ s p,o = .rows s p []:=by
     rcases hh.dom _ o hg with ⟨x,hx⟩ | ⟨_,h⟩
     ·have:=ν.phx _ x hx; rw [hph] at this; cases this
     ·exact h
    cases p <;> simp [frzT,hg', hph]
   obtain ⟨⟨r,s', n⟩,hat⟩:=hh.domP _ o hg (by simpa using hph)
   cases o with
   | mp es=>simp [frzT,hg']
   | lp q=>simp [frzT,hg']
   | it x n seen=>simp [frzT,hg']
   | rows s p es =>
   obtain ⟨rfl,g2,_⟩:=hh.blkR hg hat
   have hrw:=rowsW_own hh hg hat
   cases p with
   | true =>
    simp only [frzT,hg']
    refine .inr ⟨r,by rw [g2]; exact hat,hF' _ _ _ _ hbm hat,fun i row hrow=>?_⟩
    obtain ⟨k1,k2⟩:=hrw i row hrow
    refine ⟨k1,fun j v hj=>?_⟩
    obtain ⟨x,k3,k4,k5⟩:=k2 j v hj
    exact ⟨x,k3,k4,ri_mono hF (fun _ _=>rfl) v x k5⟩
   | false =>
    cases hall:es.all closedL with
    | false=>simp [frzT,hg', hall]
    | true =>
     simp only [frzT,hg', hall,cond_true]
     refine .inr ⟨r,by rw [g2]; exact hat,hF' _ _ _ _ hbm hat,fun i row hrow=>?_⟩
     obtain ⟨k1,k2⟩:=hrw i row hrow
     refine ⟨k1,fun j v hj=>?_⟩
     obtain ⟨x,k3,k4,k5⟩:=k2 j v hj
     rw [List.all_eq_true] at hall
     have hv:v.closed=true:=closedL_mem (hall row (List.mem_of_getElem? hrow)) (List.mem_of_getElem? hj)
     exact ⟨x,k3,k4,ri_mono hF (fun _ _=>rfl) v x (rep_ri v x hv k5)⟩
theorem handT_cl {h:Hp} {bs:List Id} : ∀ b b', handT h bs b ≠ .ren b' := by
 intro b b'
 unfold handT
 cases bs.any b.beq with
 | false=>simp
 | true =>
  simp only [cond_true]
  cases b with
  | m B k=>simp [frzT]
  | p b =>
   simp only [frzT]
   split
   ·simp
   ·rename_i s es _
    cases es.all closedL <;> simp
   ·simp
theorem K_of_K0 {G:Nat→Option (List V)} {f:FuncId} {ty:TypeId} {args:List V} {h:Hp} {k:V→Hp→Prop} (hb:K0G P G f (trL (handT h (refsL args)) args) (fun v=>typedT P true ty v fun v=>k v (delAll h (refsL args)))) :
  K P G f args h (fun b=>(refsL args).any b.beq) k:=by
 intro ν F w xs hh hG hl
 obtain ⟨ν', h1,h2,h3,h4⟩:=heap_delAll (refsL args) hh
 let F' : Nat→Prop:=fun r=>F r ∨ ∃ b s n,b∈refsL args∧ν.at_ b=some (r,s,n)
 have own_lt : ∀ r,ν.own r→r<w.heap.size:=fun r ho=>hh.own_lt ho
 have hF' : HeapOK ν' F' (delAll h (refsL args)) w:=heap_F h1 (fun r hr => .inl hr) (fun r hr=>by
  rcases hr with hr | ⟨b,s,n,hm,hat⟩
  ·exact h1.frz r hr
  ·refine ⟨own_lt r ⟨b,s,n,hat⟩,fun ⟨b', s', n', hb'⟩=>?_⟩
   obtain ⟨h5,h6⟩:=h3 b' _ hb'
   exact h6 (hh.inj b' b r s' n' s n h5 hat ▸ hm))
 have e:Evo ν F w ν' F' w:={ h2 with
  fmono:=fun r hr => .inl hr
  fnew:=fun r hr=>hr.elim .inl (fun ⟨b,s,n,_,hat⟩ => .inr (.inl ⟨b,s,n,hat⟩)) }
 have ht:TrOK F F' w ν nu0 (handT h (refsL args)):=handT_ok hh _ (fun r hr => .inl hr) (fun b r s n hm hat => .inr ⟨b,s,n,hm,hat⟩)
 have hl' := repL_riL _ _ (trL_closed handT_cl args) (repL_tr (fun r h => .inl h) ht _ _ hl)
 have hG' : GlobOK G F' w:=fun g cs hg=>ri_mono (fun r h => .inl h) (fun _ _=>rfl) _ _ (hG g cs hg)
 refine (hb F' w xs (fun r hr=>(hF'.frz r hr).1) hG' hl').mono fun e' w' he=>?_
 obtain ⟨x,v,F'', rfl,hk,hv,hbl,q1,q2,q3⟩:=he
 obtain ⟨hh', he⟩:=heap_call0 hF' hbl q1 q2 q3
 obtain ⟨v', hk,hrv⟩:=typedT_rep hk
 refine ⟨x,v', ν', F'', _,rfl,hk,hh', hrv (ri_rep (ν:=ν') _ _ hv),e.trans he,fun b y hy hb=>⟨hbl.block _ ?_,h4 b y hy ?_⟩⟩
 ·obtain ⟨r,s,n⟩:=y
  exact own_lt r ⟨b,s,n,hy⟩
 ·intro hm
  rw [List.any_eq_false] at hb
  have:=hb b hm
  simp at this
mutual
theorem blur_rep {F F2:Nat→Prop} {w w2:World} {ν ν2:Nu} : ∀ (v:V) (x:Value) (k:V→Prop),v.blur k→rep F w ν v x → ∃ v', k v' ∧ rep F2 w2 ν2 v' x
 | .raw v,x,k,hk,h=>by simp only [V.blur,rep] at hk h; exact ⟨_,hk,by simp only [rep]; exact h⟩
 | .agg cs,x,k,hk,h=>by
  simp only [V.blur,rep] at hk h
  obtain ⟨vs,h1,h2⟩:=h
  obtain ⟨cs', h3,h4⟩:=blurL_rep cs _ _ hk h2
  exact ⟨_,h3,by simp only [rep]; exact ⟨vs,h1,h4⟩⟩
 | .tup cs,x,k,hk,h=>by
  simp only [V.blur,rep] at hk h
  obtain ⟨vs,h1,h2⟩:=h
  obtain ⟨cs', h3,h4⟩:=blurL_rep cs _ _ hk h2
  exact ⟨_,h3,by simp only [rep]; exact ⟨vs,h1,h4⟩⟩
 | .lst s es,x,k,hk,h=>by
  simp only [V.blur,rep,ri] at hk h
  rcases h with ⟨_,rfl⟩ | ⟨a,c,_,rfl,_⟩
  ·exact ⟨_,hk none 0 0,by simp only [rep]⟩
  ·exact ⟨_,hk (some a) es.length c,by simp only [rep]⟩
 | .ptr _ _ _,x,k,hk,h=>⟨.junk,by simpa only [V.blur] using hk,by simp only [rep]⟩
 | .mp _,x,k,hk,h=>⟨.junk,by simpa only [V.blur] using hk,by simp only [rep]⟩
 | .yl _,x,k,hk,h=>⟨.junk,by simpa only [V.blur] using hk,by simp only [rep]⟩
 | .sl _ _ _,x,k,hk,h=>⟨.junk,by simpa only [V.blur] using hk,by simp only [rep]⟩
 | .sla _ _ _ _,x,k,hk,h=>⟨.junk,by simpa only [V.blur] using hk,by simp only [rep]⟩
 | .lsx _ _,x,k,hk,h=>⟨.junk,by simpa only [V.blur] using hk,by simp only [rep]⟩
 | .adr _ _,x,k,hk,h=>⟨.junk,by simpa only [V.blur] using hk,by simp only [rep]⟩
 | .fmp _,x,k,hk,h=>⟨.junk,by simpa only [V.blur] using hk,by simp only [rep]⟩
 | .fn _ _ _,x,k,hk,h=>⟨.junk,by simpa only [V.blur] using hk,by simp only [rep]⟩
 | .junk,x,k,hk,h=>⟨.junk,by simpa only [V.blur] using hk,by simp only [rep]⟩
theorem blurL_rep {F F2:Nat→Prop} {w w2:World} {ν ν2:Nu} : ∀ (vs:List V) (xs:List Value) (k:List V→Prop),blurL vs k→repL F w ν vs xs → ∃ vs', k vs' ∧ repL F2 w2 ν2 vs' xs
 | [],xs,k,hk,h=>by simp only [blurL,repL] at hk h; exact ⟨_,hk,by simp only [repL]; exact h⟩
 | v::vs,xs,k,hk,h=>by
  simp only [blurL,repL] at hk h
  obtain ⟨x,r,h1,h2,h3⟩:=h
  obtain ⟨v', h4,h5⟩:=blur_rep v x _ hk h2
  obtain ⟨vs', h6,h7⟩:=blurL_rep vs r _ h4 h3
  exact ⟨_,h6,by simp only [repL]; exact ⟨x,r,h1,h5,h7⟩⟩
end
theorem K_of_K0t {G:Nat→Option (List V)} {f:FuncId} {ty:TypeId} {args:List V} {h:Hp} {k:V→Hp→Prop} (hb:K0G P G f (trL (handT h (refsL args)) args) (fun v=>typedT P true ty v fun v=>v.blur fun v=>k v h)) :
  K P G f args h (fun _=>false) k:=by
 intro ν F w xs hh hG hl
 let F' : Nat→Prop:=fun r=>F r ∨ ∃ b s n,b∈refsL args∧ν.at_ b=some (r,s,n)
 have own_lt : ∀ r,ν.own r→r<w.heap.size:=fun r ho=>hh.own_lt ho
 have hlt : ∀ r,F' r→r<w.heap.size:=fun r hr=>hr.elim (fun h=>(hh.frz r h).1) fun ⟨b,s,n,_,hat⟩=>own_lt r ⟨b,s,n,hat⟩
 have ht:TrOK F F' w ν nu0 (handT h (refsL args)):=handT_ok hh _ (fun r hr => .inl hr) (fun b r s n hm hat => .inr ⟨b,s,n,hm,hat⟩)
 have hl' := repL_riL _ _ (trL_closed handT_cl args) (repL_tr (fun r h => .inl h) ht _ _ hl)
 have hG' : GlobOK G F' w:=fun g cs hg=>ri_mono (fun r h => .inl h) (fun _ _=>rfl) _ _ (hG g cs hg)
 refine (hb F' w xs hlt hG' hl').mono fun e' w' he=>?_
 obtain ⟨x,v,F'', rfl,hk,hv,hbl,q1,q2,q3⟩:=he
 obtain ⟨hh', he⟩:=heap_call0 (F' := fun r=>F r∨(F'' r∧w.heap.size≤r)) hh hbl (fun r h => .inl h) (fun r h=>h.elim .inl fun h => .inr h.2) (fun r h=>h.elim (fun h=>q3 r (q1 r (.inl h))) fun h=>q3 r h.1)
 obtain ⟨v', hk,hrv⟩:=typedT_rep hk
 obtain ⟨v2,hk,hr2⟩:=blur_rep _ _ _ hk (hrv (ri_rep (ν:=ν) _ _ hv))
 refine ⟨x,v2,ν,_,_,rfl,hk,hh', hr2,he,fun b y hy hb=>⟨hbl.block _ ?_,hy⟩⟩
 obtain ⟨r,s,n⟩:=y
 exact own_lt r ⟨b,s,n,hy⟩
def callsM (P:Program) (G:Nat→Option (List V)) (kn:FuncId→Option V) (mode:FuncId→Nat) (fz:Tmp→Bool) (base:Nat):Calling :=
 ⟨kn,mode,fz,KB P G,K0G P G,fun f args h=>K P G f args h fun _=>true,fun _ _ _ _=>true,true,base,G,fun _ _ _ _=>False,fun _=>true⟩
theorem callsM_ok {P:Program} {G:Nat→Option (List V)} {kn:FuncId→Option V} {mode:FuncId→Nat} {fz:Tmp→Bool} {base:Nat} (hkn : ∀ g r,kn g=some r→K0G P G g [] fun v=>v=r):(callsM P G kn mode fz base).ok P :=
 ⟨hkn,fun _ _ _ _ _ h=>K_of_K0 h,fun _ _ _ _ _ h1 h2=>K_of_KB h1 h2,fun _ _ _ _ _ h=>K_of_K0t h,fun _ _ _ _ h hr=>h.mono hr,fun _ _ _ h=>h,fun _ _ _ _ h=>h,fun _ _ _ _ h=>h.elim⟩
theorem Lp.of {kp:Keep} {B:Post→St→Prop} {Q:Post} {st:St} {σ:Type} (sh:σ→St) (I:σ→Prop) (μ:σ→Nat) (s0:σ) (h0:st=sh s0) (hI:I s0)
  (round : ∀ s,I s → ∀ J:St→Prop,(∀ s', I s' → μ s' < μ s→J (sh s'))→B (Qlp kp J Q) (sh s)):Lp kp B Q st:=by
 refine ⟨fun J hJ=>?_⟩
 subst h0
 have key : ∀ n s,μ s<n→I s→J (sh s):=by
  intro n
  induction n with
  | zero=>intro s h; omega
  | succ n ih =>
   intro s hs hI
   exact hJ _ (round s hI J fun s' hI' hlt=>ih s' (by omega) hI')
 exact key _ s0 (Nat.lt_succ_self _) hI
end
end Go.Proofs.YtkkgicjioajimaaDoor.Clean
namespace Go.Proofs.YtkkgicjioajimaaDoor.Clean
theorem see {p q:Prop} (h:p=q) (hp:p):q:=h ▸ hp
theorem onSome_mk {α:Type} {o:Option α} {k:α→Prop} {x:α} (h:o=some x) (hk:k x):onSome o k:=by subst h; exact hk
theorem ifB_mk {b:Bool} {p q:Prop} (h1:b=true→p) (h2:b=false→q):ifB b p q:=by cases b; exact h2 rfl; exact h1 rfl
theorem need_mk {c:Prop} [Decidable c] {p:Prop} (h:c∧p):need c p:=need_iff.2 h
theorem guardB_mk {b:Bool} {p:Prop} (h:b=true) (hp:p):guardB b p:=guardB_iff.2 ⟨h,hp⟩
theorem onNat_mk {n:Int} {k:Nat→Prop} {m:Nat} (h:n=m) (hk:k m):onNat n k:=by subst h; exact hk
theorem onBool_bv {b:Bool} {k:Bool→Prop} (h:k b):onBool (bv b) k:=h
theorem onIntK_iv {n:Int} {k:Int→Prop} (h:k n):onIntK .i64 (iv n) k:=h
theorem onLst_lst {s:Nat} {es:List (List V)} {k:Nat→List (List V)→Prop} (h:k s es):onLst (.lst s es) k:=h
theorem onLst_nil {k:Nat→List (List V)→Prop} (h:k 0 []):onLst nilS k:=h
theorem onTup_tup {cs:List V} {k:List V→Prop} (h:k cs):onTup (.tup cs) k:=h
theorem onNil_nil {k:Prop} (h:k):onNil [] k:=h
theorem nilN_mk {n:Nat} {k:Bool→Prop} (h0:n=0→k true) (h1:k false):nilN n k:=by cases n; exact ⟨h0 rfl,h1⟩; exact h1
theorem onCons_cons {v:V} {r:List V} {k:V→List V→Prop} (h:k v r):onCons (v::r) k:=h
def il (l:List Int):List (List V):=l.map fun n=>[iv n]
theorem il_get (l:List Int) (m:Nat):(il l)[m]? = (l[m]?).map fun n=>[iv n]:=by simp [il]
theorem el {l:List Int} {m:Nat} {x:Int} {k:Int→Prop} (h:l[m]? = some x) (hk:k x) :
  onSome (il l)[m]? fun row=>onSome row[0]? fun v=>onIntK .i64 v k:=by
 refine onSome_mk (x:=[iv x]) (by rw [il_get,h]; rfl) ?_
 exact hk
theorem wr {n:Int} (h : -9223372036854775808≤n) (h' : n≤9223372036854775807):IntKind.i64.wrap n=n:=by rw [IntKind.wrap_i64]; omega
end Go.Proofs.YtkkgicjioajimaaDoor.Clean
