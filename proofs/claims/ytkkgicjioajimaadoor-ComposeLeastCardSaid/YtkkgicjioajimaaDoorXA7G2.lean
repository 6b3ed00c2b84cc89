/- A part of the proof. -/
import Derived.Laws.StructEq
import Derived.ChangeKeysEq
import Derived.Laws.BytesString
import Derived.Laws.Strings
import Derived.Deep.AppendSrc
import Derived.Test.YtkkgicjioajimaaDoorXA7G1
namespace Go.Proofs.YtkkgicjioajimaaDoor.Clean
set_option linter.unusedSimpArgs false
set_option linter.unusedVariables false
theorem onSome_iff {α:Type} {o:Option α} {k:α→Prop}:onSome o k ↔ ∃ x,o=some x∧k x:=by cases o <;> simp [onSome]
theorem guardB_iff {b:Bool} {p:Prop}:guardB b p↔b=true∧p:=by cases b <;> simp [guardB]
theorem need_iff {c:Prop} [Decidable c] {p:Prop}:need c p↔c∧p:=by
 unfold need
 by_cases h:c <;> simp [h]
theorem nilN_true {k:Bool→Prop} (h:nilN 0 k):k true:=h.1
theorem nilN_false {n:Nat} {k:Bool→Prop} (h:nilN n k):k false:=by cases n; exact h.2; exact h
theorem onNil_iff {l:List V} {k:Prop}:onNil l k↔l=[]∧k:=by cases l <;> simp [onNil]
theorem onCons_iff {l:List V} {k:V→List V→Prop}:onCons l k ↔ ∃ v r,l=v::r∧k v r:=by
 cases l with
 | nil=>simp [onCons]
 | cons a l=>exact ⟨fun h=>⟨a,l,rfl,h⟩,fun ⟨v,r,h,hk⟩=>by cases h; exact hk⟩
theorem emp_or' {es:List (List V)} {a b:Nat} (h:(a.beq b || es.isEmpty)=true):es≠[]→a=b:=by
 intro he
 cases es with
 | nil=>exact (he rfl).elim
 | cons x es=>simpa using h
theorem ifB_iff {b:Bool} {p q:Prop}:ifB b p q↔(b=true→p)∧(b=false→q):=by cases b <;> simp [ifB]
theorem onBool_iff {v:V} {k:Bool→Prop}:onBool v k ↔ ∃ b,v = .raw (.bool b)∧k b:=by
 constructor
 ·intro h; unfold onBool at h; split at h
  ·exact ⟨_,rfl,h⟩
  ·exact h.elim
 ·rintro ⟨b,rfl,h⟩; exact h
theorem guardV_iff {v:V} {p:Prop} {k:Bool→Prop}:guardV v p k↔(∃ cs,v = .raw (.tuple cs)∧p) ∨ ∃ b,v = .raw (.bool b)∧k b:=by
 unfold guardV
 split
 ·rename_i cs
  simp
 ·rename_i h
  rw [onBool_iff]
  constructor
  ·exact .inr
  ·rintro (⟨cs,rfl,_⟩ | h')
   ·exact (h _ rfl).elim
   ·exact h'
theorem onIntK_iff {kk:IntKind} {v:V} {k:Int→Prop}:onIntK kk v k ↔ ∃ n,v = .raw (.int kk n)∧k n:=by
 constructor
 ·intro h; unfold onIntK at h; split at h
  ·rw [guardB_iff] at h; simp at h; obtain ⟨rfl,h⟩:=h; exact ⟨_,rfl,h⟩
  ·exact h.elim
 ·rintro ⟨n,rfl,h⟩; simp [onIntK,guardB,h]
theorem onStr_iff {v:V} {k:ByteArray→Prop}:onStr v k ↔ ∃ b,v = .raw (.string b)∧k b:=by
 constructor
 ·intro h; unfold onStr at h; split at h
  ·exact ⟨_,rfl,h⟩
  ·exact h.elim
 ·rintro ⟨b,rfl,h⟩; exact h
theorem onLst_iff {v:V} {k:Nat→List (List V)→Prop}:onLst v k↔(∃ s es,v = .lst s es∧k s es)∨(v = .raw (.slice none 0 0)∧k 0 []):=by
 constructor
 ·intro h; unfold onLst at h; split at h
  ·exact .inl ⟨_,_,rfl,h⟩
  ·exact .inr ⟨rfl,h⟩
  ·exact h.elim
 ·rintro (⟨s,es,rfl,h⟩ | ⟨rfl,h⟩) <;> exact h
theorem onAgg_iff {v:V} {k:List V→Prop}:onAgg v k ↔ ∃ cs,v = .agg cs∧k cs:=by
 constructor
 ·intro h; unfold onAgg at h; split at h
  ·exact ⟨_,rfl,h⟩
  ·exact h.elim
 ·rintro ⟨cs,rfl,h⟩; exact h
theorem onTup_iff {v:V} {k:List V→Prop}:onTup v k ↔ ∃ cs,v = .tup cs∧k cs:=by
 constructor
 ·intro h; unfold onTup at h; split at h
  ·exact ⟨_,rfl,h⟩
  ·exact h.elim
 ·rintro ⟨cs,rfl,h⟩; exact h
theorem onNat_iff {n:Int} {k:Nat→Prop}:onNat n k ↔ ∃ m:Nat,n=m∧k m:=by
 cases n with
 | ofNat m =>
  simp only [onNat]
  constructor
  ·exact fun h=>⟨m,rfl,h⟩
  ·rintro ⟨m', h1,h2⟩
   have:m=m' := Int.ofNat.inj h1
   exact this ▸ h2
 | negSucc m =>
  simp only [onNat,nope,false_iff]
  rintro ⟨m', h1,_⟩
  exact absurd h1 (by simp [Int.negSucc_eq]; omega)
theorem beq_eq {a b:Nat} (h:a.beq b=true):a=b:=Nat.eq_of_beq_eq_true h
theorem onRows_iff {h:Hp} {b:Id} {k:Nat→Bool→List (List V)→Prop}:onRows h b k ↔ ∃ s p es,h.get b=some (.rows s p es)∧k s p es:=by
 cases b with
 | p n =>
  simp only [onRows,Hp.get]
  cases getB h.bs n with
  | none=>simp
  | some o =>
   cases o with
   | rows s p es=>exact ⟨fun hk=>⟨s,p,es,rfl,hk⟩,fun ⟨s,p,es,he,hk⟩=>by cases he; exact hk⟩
   | mp es=>simp
   | lp q=>simp
   | it x n seen=>simp
 | m B j =>
  simp only [onRows,Hp.get]
  cases getF h.fs B with
  | none=>simp
  | some f =>
   simp only [onSome_iff]
   cases memb f.ms j with
   | none=>simp
   | some es=>exact ⟨fun ⟨x,he,hk⟩=>⟨f.s,true,es,rfl,by cases he; exact hk⟩,fun ⟨s,p,es', he,hk⟩=>by simp at he; obtain ⟨rfl,rfl,rfl⟩:=he; exact ⟨_,rfl,hk⟩⟩
theorem has_iff {h:Hp} {b:Id}:h.has b=true ↔ ∃ o,h.get b=some o:=by
 cases b with
 | p n=>simp only [Hp.has,Hp.get,Option.isSome_iff_exists]
 | m B j =>
  simp only [Hp.has,Hp.get]
  cases getF h.fs B with
  | none=>simp
  | some f=>simp only; cases memb f.ms j <;> simp
theorem hasM_iff {h:Hp} {b:Id}:h.hasM b=true ↔ ∃ es,h.get b=some (.mp es):=by
 cases b with
 | p n =>
  simp only [Hp.hasM,Hp.get]
  cases getB h.bs n with
  | none=>simp
  | some o=>cases o <;> simp
 | m B j =>
  simp only [Hp.hasM,Hp.get]
  cases getF h.fs B with
  | none=>simp
  | some f=>cases memb f.ms j <;> simp
theorem onMapB_iff {h:Hp} {x:V} {k:Nat→List (V×V)→Prop}:onMapB h x k ↔ ∃ b es,x = .mp (.p b)∧h.get (.p b)=some (.mp es)∧k b es:=by
 unfold onMapB
 split
 ·rename_i b
  cases b with
  | p n =>
   simp only [V.mp.injEq,Id.p.injEq]
   split
   ·rename_i es he
    constructor
    ·intro hk; exact ⟨n,es,rfl,he,hk⟩
    ·rintro ⟨b,es', rfl,h2,h3⟩
     simp only [Hp.get] at h2
     rw [he] at h2; cases h2; exact h3
   ·rename_i hne
    simp only [nope,false_iff]
    rintro ⟨b,es', rfl,h2,h3⟩
    exact hne _ h2
  | m B k=>simp
 ·rename_i hne
  simp only [false_iff]
  rintro ⟨b,es,rfl,_⟩
  exact hne _ rfl
theorem onMap_iff {h:Hp} {x:V} {k:List (V×V)→Prop}:onMap h x k↔(∃ b es,x = .mp (.p b)∧h.get (.p b)=some (.mp es)∧k es)∨(x = .raw (.map none)∧k []):=by
 unfold onMap
 split
 ·rename_i b
  cases b with
  | p n =>
   simp only [V.mp.injEq,Id.p.injEq,reduceCtorEq,false_and,or_false]
   split
   ·rename_i es he
    constructor
    ·intro hk; exact ⟨n,es,rfl,he,hk⟩
    ·rintro ⟨b,es', rfl,h2,h3⟩
     simp only [Hp.get] at h2
     rw [he] at h2; cases h2; exact h3
   ·rename_i hne
    simp only [nope,false_iff]
    rintro ⟨b,es', rfl,h2,h3⟩
    exact hne _ h2
  | m B k=>simp
 ·simp
 ·rename_i h1 h2
  simp only [false_iff]
  rintro (⟨b,es,rfl,_⟩ | ⟨rfl,_⟩)
  ·exact h1 _ rfl
  ·exact h2 rfl
section
variable {F:Nat→Prop} {w w' : World} {ν:Nu} {h:Hp}
theorem onMapF_iff {h:Hp} {x:V} {k:List (V×V)→Prop}:onMapF h x k↔(∃ es,x = .fmp es∧k es)∨(∃ b es,x = .mp (.p b)∧h.get (.p b)=some (.mp es)∧k es)∨(x = .raw (.map none)∧k []):=by
 unfold onMapF
 split
 ·rename_i es; simp
 ·rw [onMap_iff]; simp
 ·rw [onMap_iff]; simp
 ·rename_i h1 h2 h3
  simp only [false_iff]
  rintro (⟨es,rfl,_⟩ | ⟨b,es,rfl,_⟩ | ⟨rfl,_⟩)
  ·exact h1 _ rfl
  ·exact h2 _ rfl
  ·exact h3 _ rfl
theorem fmp_at {F:Nat→Prop} {w:World} {es:List (V×V)} {x:Value} (h:ri F w (.fmp es) x) : ∃ (r:Nat) (ents:Array MapEntry),x = .map (some r)∧F r∧w.heap[r]? = some (.map ents es.length)∧entsOK (ri F w) es ents:=by
 simp only [ri] at h
 obtain ⟨r,ents,h1,h2,h3,h4,h5⟩:=h
 refine ⟨r,ents,h1,h2,h3,h4,fun i kv hi=>?_⟩
 obtain ⟨e,g1,g2,g3,g4⟩:=riE_iff.1 h5 i kv hi
 exact ⟨e,by rw [← g1]; congr 1; omega,by omega,g3,g4⟩
theorem entsOK_mono {R R' : V→Value→Prop} {es:List (V×V)} {ents:Array MapEntry} (h:entsOK R es ents) (hr : ∀ v x,R v x→R' v x):entsOK R' es ents :=
 ⟨h.1,fun i kv hi=>let ⟨e,g1,g2,g3,g4⟩:=h.2 i kv hi; ⟨e,g1,g2,hr _ _ g3,hr _ _ g4⟩⟩
theorem repL_raw : ∀ (l:List Value),repL F w ν (l.map .raw) l
 | []=>by simp [repL]
 | x::l=>by simp only [List.map,repL]; exact ⟨x,l,rfl,by simp [rep],repL_raw l⟩
theorem rep_ofValue (v:Value):rep F w ν (V.ofValue v) v:=by
 cases v <;> simp only [V.ofValue,rep]
 case agg cs=>exact ⟨cs,rfl,repL_raw _⟩
 case tuple cs=>exact ⟨cs,rfl,repL_raw _⟩
theorem repL_length : ∀ {vs:List V} {xs:List Value},repL F w ν vs xs→xs.length=vs.length
 | [],xs,h=>by simp only [repL] at h; simp [h]
 | v::vs,xs,h=>by simp only [repL] at h; obtain ⟨x,ys,rfl,_,h3⟩:=h; simp [repL_length h3]
theorem repL_get : ∀ {vs:List V} {xs:List Value},repL F w ν vs xs → ∀ (i:Nat) v,vs[i]? = some v → ∃ x,xs[i]? = some x∧rep F w ν v x
 | [],xs,h,i,v,hi=>by simp at hi
 | u::vs,xs,h,i,v,hi=>by
  simp only [repL] at h
  obtain ⟨x,ys,rfl,h2,h3⟩:=h
  cases i with
  | zero=>simp at hi; subst hi; exact ⟨x,rfl,h2⟩
  | succ i=>simp at hi; simpa using repL_get h3 i v hi
theorem repL_of : ∀ {vs:List V} {xs:List Value},xs.length=vs.length→(∀ (i:Nat) v x,vs[i]? = some v→xs[i]? = some x→rep F w ν v x)→repL F w ν vs xs
 | [],xs,hl,_=>by simp only [repL]; exact List.eq_nil_of_length_eq_zero (by simpa using hl)
 | u::vs,[],hl,_=>by simp at hl
 | u::vs,x::xs,hl,h=>by
  simp only [repL]
  exact ⟨x,xs,rfl,h 0 u x rfl rfl,repL_of (by simpa using hl) (fun i v y hi hy=>h (i+1) v y (by simpa using hi) (by simpa using hy))⟩
theorem repL_sub {vs:List V} {xs:List Value} (h:repL F w ν vs xs) (o n:Nat):repL F w ν (sub vs o n) (sub xs o n):=by
 have hl:=repL_length h
 refine repL_of (by simp [sub,hl]) (fun i v x hi hx=>?_)
 simp only [sub,List.getElem?_take,List.getElem?_drop] at hi hx
 split at hi
 ·rename_i hlt
  rw [if_pos hlt] at hx
  obtain ⟨y,hy,hr⟩:=repL_get h _ v hi
  rw [hx] at hy; simp at hy; exact hy ▸ hr
 ·simp at hi
theorem repL_append : ∀ {vs us:List V} {xs ys:List Value},repL F w ν vs xs→repL F w ν us ys→repL F w ν (vs++us) (xs++ys)
 | [],us,xs,ys,h,k=>by simp only [repL] at h; subst h; simpa using k
 | v::vs,us,xs,ys,h,k=>by
  simp only [repL] at h
  obtain ⟨x,zs,rfl,h2,h3⟩:=h
  simp only [List.cons_append,repL]
  exact ⟨x,zs++ys,rfl,h2,repL_append h3 k⟩
theorem repL_map {α:Type} {f:α→V} {g:α→Value} (hfg : ∀ x,rep F w ν (f x) (g x)) : ∀ (l:List α),repL F w ν (l.map f) (l.map g)
 | []=>by simp [repL]
 | x::l=>by simp only [List.map,repL]; exact ⟨_,_,rfl,hfg x,repL_map hfg l⟩
theorem rep_cells {v:V} {x:Value} (hr:rep F w ν v x) {cs:List V} (hc:v.cells=some cs) (hk:HeapOK ν F h w) (ho:allOne h cs=true):repL F w ν cs x.cells.toList:=by
 have one : ∀ {v:V} {x:Value},rep F w ν v x→allOne h [v]=true→x.cells = #[x]:=fun {v x} hr ho=>by
  have ho' : V.one h v=true:=by simpa [allOne] using ho
  cases v <;> simp only [rep,V.one] at hr ho' <;> (try cases ho')
  case raw u=>subst hr; cases x <;> simp_all [Value.oneCell', Value.cells]
  case ptr b i off =>
   obtain ⟨o,hb⟩:=has_iff.1 ho'
   obtain ⟨⟨r,s,n⟩,hx⟩:=hk.domP b o hb hr.1.2
   rw [hr.2 r s n hx]; rfl
  case sl b lo len =>
   obtain ⟨o,hb⟩:=has_iff.1 ho'
   rcases hk.dom b o hb with ⟨⟨r,s,n⟩,hx⟩ | ⟨hp,_⟩
   ·obtain ⟨_,cap,_,⟨_,_,hx'⟩,_⟩:=hr.2 r s n hx
    rw [hx']; rfl
   ·rw [(hr.1.2 hp).2.2]; rfl
  case mp b =>
   obtain ⟨es,hb⟩:=hasM_iff.1 ho'
   obtain ⟨r,s,n,ents,hat,_⟩:=hk.blkM hb
   rw [hr.2 r s n hat]; rfl
  case lst s es =>
   simp only [ri] at hr
   rcases hr with ⟨_,hx⟩ | ⟨a,cap,_,hx,_⟩ <;> (rw [hx]; rfl)
  case adr cs off=>simp only [ri] at hr; obtain ⟨b,o,hx,_⟩:=hr; rw [hx]; rfl
  case fmp es=>simp only [ri] at hr; obtain ⟨r,ents,hx,_⟩:=hr; rw [hx]; rfl
  case fn f a c=>obtain ⟨as,cs,hx,_⟩:=hr; rw [hx]; rfl
 cases v <;> simp only [V.cells,Option.some.injEq,reduceCtorEq] at hc
 case agg cs' =>
  subst hc
  simp only [rep] at hr
  obtain ⟨vs,rfl,h2⟩:=hr
  exact h2
 all_goals
  subst hc
  rw [one hr ho]
  simp only [repL]
  exact ⟨x,[],rfl,hr,rfl⟩
theorem rep_one {v:V} {x:Value} (hk:HeapOK ν F h w) (hr:rep F w ν v x) (ho:V.one h v=true):x.oneCell' = true:=by
 cases v <;> simp only [rep,V.one] at hr ho <;> (try cases ho)
 case raw u=>subst hr; exact ho
 case ptr b i off =>
  obtain ⟨o,hb⟩:=has_iff.1 ho
  obtain ⟨⟨r,s,n⟩,hx⟩:=hk.domP b o hb hr.1.2
  rw [hr.2 r s n hx]; rfl
 case sl b lo len =>
  obtain ⟨o,hb⟩:=has_iff.1 ho
  rcases hk.dom b o hb with ⟨⟨r,s,n⟩,hx⟩ | ⟨hp,_⟩
  ·obtain ⟨_,cap,_,⟨_,_,hx'⟩,_⟩:=hr.2 r s n hx
   rw [hx']; rfl
  ·rw [(hr.1.2 hp).2.2]; rfl
 case mp b =>
  obtain ⟨es,hb⟩:=hasM_iff.1 ho
  obtain ⟨r,s,n,ents,hat,_⟩:=hk.blkM hb
  rw [hr.2 r s n hat]; rfl
 case lst s es =>
  simp only [ri] at hr
  rcases hr with ⟨_,hx⟩ | ⟨a,cap,_,hx,_⟩ <;> (rw [hx]; rfl)
 case adr cs off=>simp only [ri] at hr; obtain ⟨b,o,hx,_⟩:=hr; rw [hx]; rfl
 case fmp es=>simp only [ri] at hr; obtain ⟨r,ents,hx,_⟩:=hr; rw [hx]; rfl
 case fn f a c=>obtain ⟨as,cs,hx,_⟩:=hr; rw [hx]; rfl
def isAggD (d:TypeDesc):Bool:=match d with | .struct _ | .array _ _=>true | _=>false
def blkOf (x:V):Option Id:=match x with | .ptr b _ _=>some b | _=>none
def mapOf (x:V):Option Id:=match x with | .mp b=>some b | _=>none
def Agree (F:Nat→Prop) (ν:Nu) (fp:Option Id) (w w' : World):Prop :=
 (∀ r,F r→w'.heap[r]? = w.heap[r]?)∧(∀ b r s n,fp=some b→ν.at_ b=some (r,s,n)→w'.heap[r]? = w.heap[r]?)
theorem Agree.refl (fp:Option Id):Agree F ν fp w w:=⟨fun _ _=>rfl,fun _ _ _ _ _ _=>rfl⟩
def QV (P:Program) (F:Nat→Prop) (ν:Nu) (w:World) (fp:Option Id) (c:Sem Value) (k:V→Prop):Prop :=
 ∃ x v,k v∧rep F w ν v x ∧ ∀ w', Agree F ν fp w w' → c.run P w' = .ok x w'
theorem QV.pure {P:Program} {fp:Option Id} {c:Sem Value} {k:V→Prop} (x:Value) (v:V) (hk:k v) (hr:rep F w ν v x) (hc : ∀ w', c.run P w' = .ok x w'):QV P F ν w fp c k :=
 ⟨x,v,hk,hr,fun w' _=>hc w'⟩
theorem QV.raw {P:Program} {fp:Option Id} {c:Sem Value} {k:V→Prop} {z:Value} (hk:k (.raw z)) (hc : ∀ w', c.run P w' = .ok z w'):QV P F ν w fp c k :=
 QV.pure z (.raw z) hk (by simp only [rep]) hc
def RowAt (R:V→Value→Prop) (w:World) (r o:Nat) (row:List V):Prop := ∀ j v,row[j]? = some v → ∃ x,w.cell? ⟨r,o+j,none⟩=some x∧x.oneCell' = true∧R v x
theorem RowAt.sub {R:V→Value→Prop} {r o:Nat} {row:List V} (hr:RowAt R w r o row) (off n:Nat):RowAt R w r (o+off) (sub row off n):=by
 intro j v hj
 simp only [Clean.sub,List.getElem?_take,List.getElem?_drop] at hj
 split at hj
 ·obtain ⟨x,h1,h2⟩:=hr _ v hj
  exact ⟨x,by rw [Nat.add_assoc]; exact h1,h2⟩
 ·simp at hj
theorem RowAt.list {w:World} {R:V→Value→Prop} {r:Nat} : ∀ {row:List V} {o:Nat},RowAt R w r o row → ∃ xs:List Value,xs.length=row.length∧(∀ j x,xs[j]? = some x→w.cell? ⟨r,o+j,none⟩=some x∧x.oneCell' = true) ∧ ∀ (j:Nat) (v:V) (x:Value),row[j]? = some v→xs[j]? = some x→R v x
 | [],o,_=>⟨[],rfl,by simp,by simp⟩
 | v::row,o,hr=>by
  obtain ⟨x,h1,h1', h2⟩:=hr 0 v rfl
  obtain ⟨xs,g1,g2,g3⟩:=RowAt.list (w:=w) (r:=r) (row:=row) (o:=o+1) (fun j u hj=>by
   have:=hr (j+1) u (by simpa using hj)
   rwa [show o+(j+1)=o+1+j by omega] at this)
  refine ⟨x::xs,by simp [g1],fun j y hy=>?_,fun j u y hu hy=>?_⟩
  ·cases j with
   | zero=>simp at hy; subst hy; exact ⟨h1,h1'⟩
   | succ j=>rw [show o+(j+1)=o+1+j by omega]; exact g2 j y (by simpa using hy)
  ·cases j with
   | zero=>simp at hu hy; subst hu; subst hy; exact h2
   | succ j=>exact g3 j u y (by simpa using hu) (by simpa using hy)
theorem add_lit (r o j:Nat):(⟨r,o,none⟩:Addr).add j=⟨r,o+j,none⟩:=by unfold Addr.add; split <;> simp_all
theorem isAgg_run {P:Program} {t:TypeId} {d:TypeDesc} (hd:P.underlying t=some d) (w:World) :
  (isAgg t).run P w = .ok (isAggD d) w:=by
 unfold isAgg
 rw [Sem.run_bind,run_underlying hd w]
 cases d <;> rfl
theorem typed_rep {d:TypeDesc} {p:Bool} {v:V} {k:V→Prop} (h:typed d p v k) : ∃ v', k v' ∧ ∀ {F:Nat→Prop} {w:World} {ν:Nu} {x:Value},rep F w ν v x→rep F w ν v' x:=by
 unfold typed at h
 split at h
 ·rw [onIntK_iff] at h; obtain ⟨n,rfl,h⟩:=h; exact ⟨_,h,fun h=>h⟩
 ·rw [onBool_iff] at h; obtain ⟨n,rfl,h⟩:=h; exact ⟨_,h,fun h=>h⟩
 ·rw [onStr_iff] at h; obtain ⟨n,rfl,h⟩:=h; exact ⟨_,h,fun h=>h⟩
 ·split at h
  ·rw [onLst_iff] at h
   rcases h with ⟨s,es,rfl,h⟩ | ⟨rfl,h⟩
   ·exact ⟨_,h,fun h=>h⟩
   ·refine ⟨_,h,fun h=>?_⟩
    simp only [rep] at h
    subst h
    simp only [rep,ri]
    exact .inl ⟨trivial,trivial⟩
  ·exact ⟨_,h,fun h=>h⟩
 ·split at h
  ·unfold onFmp at h
   split at h
   ·exact ⟨_,h,fun h=>h⟩
   ·exact ⟨_,h,fun h=>h⟩
   ·exact h.elim
  ·exact ⟨_,h,fun h=>h⟩
 ·rw [onAgg_iff] at h; obtain ⟨n,rfl,h⟩:=h; exact ⟨_,h,fun h=>h⟩
 ·rw [onAgg_iff] at h; obtain ⟨n,rfl,h⟩:=h; exact ⟨_,h,fun h=>h⟩
 ·rw [onTup_iff] at h; obtain ⟨n,rfl,h⟩:=h; exact ⟨_,h,fun h=>h⟩
 ·exact ⟨_,h,fun h=>h⟩
theorem onTyped_rep {p:Bool} : ∀ {ds:List TypeDesc} {l:List V} {k:List V→Prop},onTyped p ds l k →
  (l.take ds.length).length=ds.length ∧ ∃ cs,k cs ∧ ∀ {F:Nat→Prop} {w:World} {ν:Nu} {xs:List Value},repL F w ν (l.take ds.length) xs→repL F w ν cs xs
 | [],l,k,h=>by simp only [onTyped] at h; exact ⟨by simp,[],h,fun h=>by simpa using h⟩
 | d::ds,[],k,h=>by simp [onTyped,onCons] at h
 | d::ds,v::r,k,h=>by
  simp only [onTyped,onCons] at h
  obtain ⟨v', hk,hv⟩:=typed_rep h
  obtain ⟨h1,cs,h2,h3⟩:=onTyped_rep hk
  refine ⟨by simp only [List.length_cons,List.take_succ_cons]; rw [h1],v' :: cs,h2,fun hr=>?_⟩
  simp only [List.length_cons,List.take_succ_cons,repL] at hr ⊢
  obtain ⟨x,xs,rfl,g1,g2⟩:=hr
  exact ⟨x,xs,rfl,hv g1,h3 g2⟩
theorem onTypedE_rep {p:Bool} : ∀ {ds:List TypeDesc} {l:List V} {k:List V→Prop},onTypedE p ds l k →
  ∃ cs,k cs ∧ ∀ {F:Nat→Prop} {w:World} {ν:Nu} {xs:List Value},repL F w ν l xs→repL F w ν cs xs
 | [],l,k,h=>by
  simp only [onTypedE,onNil_iff] at h
  obtain ⟨rfl,h⟩:=h
  exact ⟨[],h,fun hx=>hx⟩
 | d::ds,l,k,h=>by
  simp only [onTypedE,onCons_iff] at h
  obtain ⟨v,r,rfl,h⟩:=h
  obtain ⟨v', h,hv⟩:=typed_rep h
  obtain ⟨cs,h,hcs⟩:=onTypedE_rep h
  refine ⟨v' :: cs,h,fun hx=>?_⟩
  simp only [repL] at hx ⊢
  obtain ⟨x,xs,h1,h2,h3⟩:=hx
  exact ⟨x,xs,h1,hv h2,hcs h3⟩
theorem typedS_rep {P:Program} {p:Bool} {t:TypeId} {v:V} {k:V→Prop} (h:typedS P p t v k) : ∃ v', k v' ∧ ∀ {F:Nat→Prop} {w:World} {ν:Nu} {x:Value},rep F w ν v x→rep F w ν v' x:=by
 unfold typedS at h
 rw [onSome_iff] at h
 obtain ⟨d,hd,h⟩:=h
 have agg:onAgg v (fun cs=>onTypedE p (kinds P 8 t) cs fun cs=>k (.agg cs)) → ∃ v', k v' ∧ ∀ {F:Nat→Prop} {w:World} {ν:Nu} {x:Value},rep F w ν v x→rep F w ν v' x:=fun hg=>by
  rw [onAgg_iff] at hg
  obtain ⟨cs,hv,hg⟩:=hg
  obtain ⟨cs', hg,hcs⟩:=onTypedE_rep hg
  refine ⟨_,hg,fun hx=>?_⟩
  rw [hv] at hx
  simp only [rep] at hx ⊢
  obtain ⟨vs,h1,h2⟩:=hx
  exact ⟨vs,h1,hcs h2⟩
 split at h
 ·exact agg h
 ·exact agg h
 ·exact h.elim
 ·exact typed_rep h
theorem typedL_rep {P:Program} {p:Bool} : ∀ {ts:List TypeId} {l:List V} {k:List V→Prop},typedL P p ts l k →
  ∃ cs,k cs ∧ ∀ {F:Nat→Prop} {w:World} {ν:Nu} {xs:List Value},repL F w ν l xs→repL F w ν cs xs
 | [],l,k,h=>by
  simp only [typedL,onNil_iff] at h
  obtain ⟨rfl,h⟩:=h
  exact ⟨[],h,fun hx=>hx⟩
 | t::ts,l,k,h=>by
  simp only [typedL,onCons_iff] at h
  obtain ⟨v,r,rfl,h⟩:=h
  obtain ⟨v', h,hv⟩:=typedS_rep h
  obtain ⟨cs,h,hcs⟩:=typedL_rep h
  refine ⟨v' :: cs,h,fun hx=>?_⟩
  simp only [repL] at hx ⊢
  obtain ⟨x,xs,h1,h2,h3⟩:=hx
  exact ⟨x,xs,h1,hv h2,hcs h3⟩
theorem typedT_rep {P:Program} {p:Bool} {t:TypeId} {v:V} {k:V→Prop} (h:typedT P p t v k) : ∃ v', k v' ∧ ∀ {F:Nat→Prop} {w:World} {ν:Nu} {x:Value},rep F w ν v x→rep F w ν v' x:=by
 unfold typedT at h
 rw [onSome_iff] at h
 obtain ⟨d,hd,h⟩:=h
 split at h
 ·rw [onTup_iff] at h
  obtain ⟨vs,rfl,h⟩:=h
  obtain ⟨vs', h,hvs⟩:=typedL_rep h
  refine ⟨_,h,fun hx=>?_⟩
  simp only [rep] at hx ⊢
  obtain ⟨us,h1,h2⟩:=hx
  exact ⟨us,h1,hvs h2⟩
 ·exact typedS_rep h
theorem isAggD_cases (d:TypeDesc):(∃ fs,d = .struct fs)∨(∃ n e,d = .array n e)∨isAggD d=false:=by
 cases d <;> simp [isAggD]
theorem load_row {P:Program} {t:TypeId} {row:List V} {off:Nat} {p:Bool} {k:V→Prop} {fp:Option Id} {R:V→Value→Prop} {r o:Nat}
  (hR : ∀ v x,R v x→rep F w ν v x) (hrow:RowAt R w r o row) (hag : ∀ w', Agree F ν fp w w' → w'.heap[r]? = w.heap[r]?) (h:wLoad P t row off p k) :
  QV P F ν w fp (loadVar t ⟨r,o+off,none⟩) k:=by
 unfold wLoad at h
 rw [onSome_iff] at h
 obtain ⟨d,hd,h⟩:=h
 have agg : ∀ (hda:(isAggD d)=true),onSome (P.info? t) (fun i=>guardB ((kinds P 8 t).length.beq i.size) (onTyped p (kinds P 8 t) (row.drop off) fun cs=>k (.agg cs))) →
   QV P F ν w fp (loadVar t ⟨r,o+off,none⟩) k:=fun hda h=>by
  rw [onSome_iff] at h
  obtain ⟨i,hi,h⟩:=h
  rw [guardB_iff] at h
  obtain ⟨hkl,h⟩:=h
  obtain ⟨hl,cs', hk,hcs⟩:=onTyped_rep h
  rw [beq_eq hkl] at hl hcs
  have hl:(sub row off i.size).length=i.size:=hl
  obtain ⟨xs,g1,g2,g3⟩:=(hrow.sub off i.size).list
  refine ⟨.agg xs.toArray,_,hk,?_,fun w' ha=>?_⟩
  ·simp only [rep]
   exact ⟨_,rfl,hcs (repL_of (vs:=sub row off i.size) (by simpa using g1) (fun j v x hv hx=>hR v x (g3 j v x hv (by simpa using hx))))⟩
  ·have hl' : (loadCells ⟨r,o+off,none⟩ i.size).run P w' = .ok xs.toArray w' := by
    rw [← hl,← g1]
    exact run_loadCells_list (P:=P) w' _ xs (fun j v hv=>by
     rw [add_lit,cell_heap (a:=⟨r,o+off+j,none⟩) (hag w' ha)]; exact (g2 j v hv).1)
   simp [loadVar,isAgg_run hd,hda,sizeOf,typeInfo,hi,hl']
 rcases isAggD_cases d with ⟨fs,rfl⟩ | ⟨n,e,rfl⟩ | hda
 ·exact agg rfl h
 ·exact agg rfl h
 ·have h' : onSome row[off]? fun v=>typed d p v k:=by
   cases d <;> first | exact h | simp [isAggD] at hda
  rw [onSome_iff] at h'
  obtain ⟨v,hv,h'⟩:=h'
  obtain ⟨x,h1,h2,h3⟩:=hrow off v hv
  obtain ⟨v', hv', hrv⟩:=typed_rep h'
  refine ⟨x,v', hv', hrv (hR v x h3),fun w' ha=>?_⟩
  have hc:w'.cell? ⟨r,o+off,none⟩=some x:=by rw [cell_heap (a:=⟨r,o+off,none⟩) (hag w' ha)]; exact h1
  simp [loadVar,isAgg_run hd,hda,hc]
theorem at_row (hk:HeapOK ν F h w) {x:V} {y:Value} (hr:rep F w ν x y) {K:List V→Nat→Bool→Prop} (hA:wAt h x K) :
  ∃ row off p r o,K row off p∧y = .pointer (some ⟨r,o+off,none⟩)∧RowAt (repO F w ν p) w r o row ∧
   ∀ w', Agree F ν (blkOf x) w w' → w'.heap[r]? = w.heap[r]? := by
 unfold wAt at hA
 split at hA
 ·rename_i b i off
  rw [onRows_iff] at hA
  obtain ⟨s,p,es,hb,hA⟩:=hA
  simp only [onSome_iff] at hA
  obtain ⟨row,hrow,hK⟩:=hA
  simp only [rep] at hr
  obtain ⟨⟨r,s', n⟩,hx⟩:=hk.domP b _ hb hr.1.2
  obtain ⟨rfl,g2,c,el,g3,g4,g5⟩:=hk.blkR hb hx
  have hy:=hr.2 r _ n hx
  rw [rowsC_iff] at g5
  obtain ⟨g6,g7⟩:=g5 i row hrow
  refine ⟨row,off,p,r,i * _,hK,hy,fun j v hj=>?_,fun w' ha=>ha.2 b r _ n rfl hx⟩
  obtain ⟨z,g8,g9⟩:=g7 j v hj
  exact ⟨z,by rw [cell_of_row w r _ c el (0,0) g3]; simpa using g8,g9⟩
 ·rename_i cs off
  simp only [rep,ri] at hr
  obtain ⟨r,o,hy,hF,hc⟩:=hr
  rw [riCells_iff] at hc
  refine ⟨cs,off,true,r,o,hA,hy,fun j v hj=>?_,fun w' ha=>ha.1 r hF⟩
  simpa [repO] using hc j v hj
 ·exact hA.elim
theorem q_load {P:Program} {ρV:V} {y:Value} {t:TypeId} {b:Bool} {k:V→Prop} (hk:HeapOK ν F h w) (hr:rep F w ν ρV y) (hw:wAt h ρV fun row off p=>wLoad P t row off (p&&b) k) :
  QV P F ν w (blkOf ρV) (Instr.loadAt t y) k:=by
 obtain ⟨row,off,p,r,o,hK,rfl,hrow,hag⟩:=at_row hk hr hw
 have:=load_row (P:=P) (F:=F) (w:=w) (ν:=ν) (fun v x hv=>repO_rep hv) hrow hag hK
 obtain ⟨x,v,h1,h2,h3⟩:=this
 exact ⟨x,v,h1,h2,fun w' ha=>by simp [Instr.loadAt,Instr.sureAddr,h3 w' ha]⟩
theorem q_int {P:Program} {fp:Option Id} {op:BinOp} {kk kk' : IntKind} {a b:Int} {xo yo:Operand} {t:TypeId} {k:V→Prop} (h:wInt op kk a kk' b k) :
  QV P F ν w fp (do eqGuard op t xo yo (.int kk a) (.int kk' b); binOp op t (.int kk a) (.int kk' b)) k:=by
 have hg : ∀ w', (eqGuard op t xo yo (.int kk a) (.int kk' b)).run P w' = .ok () w' := fun w' => by
  unfold eqGuard; cases op <;> rfl
 have close : ∀ z,k (.raw z)→(∀ w', (binOp op t (.int kk a) (.int kk' b)).run P w' = .ok z w')→QV P F ν w fp (do eqGuard op t xo yo (.int kk a) (.int kk' b); binOp op t (.int kk a) (.int kk' b)) k :=
  fun z hz hrun=>QV.pure z (.raw z) hz (by simp [rep]) (fun w' => by simp [hg,hrun])
 unfold wInt at h
 cases op <;> simp only [guardB_iff,beq_iff_eq,need_iff] at h
 case shl=>exact close _ h.2 (fun w' => by have:=h.1; simp [binOp,Op.shift,Int.not_lt.2 this])
 case shr=>exact close _ h.2 (fun w' => by have:=h.1; simp [binOp,Op.shift,Int.not_lt.2 this])
 all_goals
  obtain ⟨rfl,h⟩:=h
  first
   | exact close _ h (fun w' => by simp [binOp,Op.intArith,Op.intCmp,Op.intBits])
   | exact close _ h.2 (fun w' => by have:=h.1; simp [binOp,Op.intDiv,this])
   | exact h.elim
theorem part_rep {P:Program} {t:TypeId} {cs:List V} {vs:Array Value} {off:Nat} {v:V} (hx:repL F w ν cs vs.toList) (hh:partV P t cs off=some v) :
  ∃ x,rep F w ν v x ∧ ∀ w' : World,(part t vs off).run P w' = .ok x w' := by
 unfold partV at hh
 cases hd:P.underlying t with
 | none=>rw [hd] at hh; simp at hh
 | some d =>
 rw [hd] at hh
 have agg:isAggD d=true→((P.info? t).bind fun i=>bif ((cs.drop off).take i.size).length.beq i.size then some (V.agg ((cs.drop off).take i.size)) else none)=some v →
   ∃ x,rep F w ν v x ∧ ∀ w' : World,(part t vs off).run P w' = .ok x w' := fun hda h=>by
  rw [Option.bind_eq_some_iff] at h
  obtain ⟨i,hi,h⟩:=h
  cases hb:((cs.drop off).take i.size).length.beq i.size with
  | false=>rw [hb] at h; simp at h
  | true =>
   rw [hb] at h
   simp at h
   subst h
   refine ⟨.agg (vs.extract off (off+i.size)),?_,fun w' => by simp [part,isAgg_run hd,hda,sizeOf,typeInfo,hi]⟩
   simp only [rep]
   refine ⟨_,rfl,?_⟩
   have:=repL_sub hx off i.size
   simpa [sub,Array.toList_extract,List.extract_eq_take_drop] using this
 rcases isAggD_cases d with ⟨fs,rfl⟩ | ⟨n,e,rfl⟩ | hda
 ·exact agg rfl hh
 ·exact agg rfl hh
 ·have h' : cs[off]? = some v:=by cases d <;> first | exact hh | simp [isAggD] at hda
  obtain ⟨x,h1,h2⟩:=repL_get hx off v h'
  have h1' : vs[off]? = some x:=by simpa using h1
  exact ⟨x,h2,fun w' => by simp [part,isAgg_run hd,hda,h1']⟩
theorem eqC_sound {P:Program} : ∀ (n:Nat) (t:TypeId) (x y:V) (b:Bool),eqC P n t x y=some b → ∀ {x' y' : Value},rep F w ν x x' → rep F w ν y y' → ∀ d,n≤d → ∀ w' : World,(Op.equalIn d t x' y').run P w' = .ok b w'
 | 0,t,x,y,b,h,_,_,_,_,_,_,_=>by simp [eqC] at h
 | n+1,t,x,y,b,h,x', y', hx,hy,d,hd,w' => by
  obtain ⟨d,rfl⟩ : ∃ d', d=d' + 1:=⟨d - 1,by omega⟩
  unfold eqC at h
  split at h
  ·rename_i kk hu
   split at h
   ·rename_i k a k' b'
    simp only [rep] at hx hy
    subst hx; subst hy
    cases hk:k==k' with
    | false=>rw [hk] at h; simp at h
    | true =>
     rw [hk] at h
     simp at h
     have:=eq_of_beq hk
     subst this
     rw [run_equalIn_int w' d t k kk a b' hu,h]
   ·cases h
  ·rename_i hu
   split at h
   ·simp only [rep] at hx hy
    subst hx; subst hy
    simp at h
    rw [run_equalIn_bool' w' d t _ _ hu,h]
   ·cases h
  ·rename_i hu
   split at h
   ·simp only [rep] at hx hy
    subst hx; subst hy
    simp only [Option.some.injEq] at h
    rw [run_equalIn_string w' d t _ _ hu,ByteArray.toList_eq,ByteArray.toList_eq,h]
   ·cases h
  ·rename_i fs hu
   split at h
   ·rename_i xs ys
    simp only [rep] at hx hy
    obtain ⟨vx,rfl,hlx⟩:=hx
    obtain ⟨vy,rfl,hly⟩:=hy
    cases hs:P.stoodInHeld t with
    | true=>rw [hs] at h; simp at h
    | false =>
     rw [hs] at h
     simp only [cond_false] at h
     have hf:P.fieldsOf t=fs:=by unfold Program.fieldsOf; rw [hu]
     rw [run_equalIn_struct w' d t vx vy (by rw [hf]; exact hu) hs,hf]
     have key : ∀ (l:List Field) (b:Bool),eqFs (eqC P n) P xs ys l=some b → ∀ w' : World,(Op.eqFields d vx vy l).run P w' = .ok b w' := by
      intro l
      induction l with
      | nil=>intro b hb w'; simp [eqFs] at hb; subst hb; simp [Op.eqFields]
      | cons fd l ih =>
       intro b hb w'
       simp only [eqFs] at hb
       cases hn : fd.name == "_" with
       | true=>rw [hn] at hb; simp at hb
       | false =>
        rw [hn] at hb
        simp only [cond_false,Option.bind_eq_some_iff,Option.map_eq_some_iff] at hb
        obtain ⟨x,hx,y,hy,a,ha,b2,hb2,rfl⟩:=hb
        obtain ⟨x', rx,px⟩:=part_rep (P:=P) hlx hx
        obtain ⟨y', ry,py⟩:=part_rep (P:=P) hly hy
        have hn' : fd.name ≠ "_" := fun h0 => by rw [h0] at hn; simp at hn
        have he:=eqC_sound n fd.type x y a ha rx ry d (by omega) w'
        simp only [Op.eqFields]
        rw [if_pos hn']
        simp only [Sem.run_bind,px,py,Result.andThen_ok,he]
        cases a with
        | false=>simp
        | true=>simpa using ih b2 hb2 w'
     exact key _ b h w'
   ·cases h
  ·rename_i len e hu
   split at h
   ·rename_i xs ys
    simp only [rep] at hx hy
    obtain ⟨vx,rfl,hlx⟩:=hx
    obtain ⟨vy,rfl,hly⟩:=hy
    rw [Option.bind_eq_some_iff] at h
    obtain ⟨i,hi,h⟩:=h
    have hsz:P.cellsOf e=i.size:=by simp [Program.cellsOf,hi]
    rw [run_equalIn_array w' d vx vy hu hi,hsz]
    have key : ∀ (l:List Nat) (b:Bool),eqAs (eqC P n e) P e i.size xs ys l=some b → ∀ w' : World,(Op.eqItems d e i.size vx vy l).run P w' = .ok b w' := by
     intro l
     induction l with
     | nil=>intro b hb w'; simp [eqAs] at hb; subst hb; simp [Op.eqItems]
     | cons j l ih =>
      intro b hb w'
      simp only [eqAs,Option.bind_eq_some_iff,Option.map_eq_some_iff] at hb
      obtain ⟨x,hx,y,hy,a,ha,b2,hb2,rfl⟩:=hb
      obtain ⟨x', rx,px⟩:=part_rep (P:=P) hlx hx
      obtain ⟨y', ry,py⟩:=part_rep (P:=P) hly hy
      have he:=eqC_sound n e x y a ha rx ry d (by omega) w'
      simp only [Op.eqItems,Sem.run_bind,px,py,Result.andThen_ok,he]
      cases a with
      | false=>simp
      | true=>simpa using ih b2 hb2 w'
    exact key _ b h w'
   ·cases h
  ·cases h
theorem q_bin {P:Program} {fp:Option Id} {op:BinOp} {xo yo:Operand} {t:TypeId} {x y:V} {x' y' : Value} {k:V→Prop} (hx:rep F w ν x x') (hy:rep F w ν y y') (h:wBin P op t x y k) :
  QV P F ν w fp (do eqGuard op t xo yo x' y'; binOp op t x' y') k:=by
 unfold wBin at h
 split at h
 ·simp only [rep] at hx hy; subst hx; subst hy; exact q_int h
 ·simp only [rep] at hx hy; subst hx; subst hy
  rename_i a b
  rw [onSome_iff] at h
  obtain ⟨d,hd,h⟩:=h
  have hg : ∀ w', (eqGuard op t xo yo (.bool a) (.bool b)).run P w' = .ok () w' := fun w' => by unfold eqGuard; cases op <;> rfl
  have he : ∀ w', (Op.equal t (.bool a) (.bool b)).run P w' = .ok (a==b) w' ∨ d ≠ .bool:=fun w' => by
   by_cases hb:d = .bool
   ·subst hb; left
    show (Op.equalIn (9999+1) t (.bool a) (.bool b)).run P w' = _
    rw [Op.equalIn]
    simp [run_underlying hd]
   ·exact .inr hb
  split at h
  ·exact QV.raw h (fun w' => by simp [hg,binOp,(he w').resolve_right (by simp)])
  ·exact QV.raw h (fun w' => by simp [hg,binOp,(he w').resolve_right (by simp)])
  ·exact h.elim
 ·simp only [rep] at hx hy; subst hx; subst hy
  rename_i a b
  have hg : ∀ w', (eqGuard op t xo yo (.string a) (.string b)).run P w' = .ok () w' := fun w' => by unfold eqGuard; cases op <;> rfl
  simp only [← ByteArray.toList_eq] at h
  split at h
  ·rw [need_iff] at h
   refine QV.raw h.2 (fun w' => ?_)
   have h1 : ¬ ((a.size:Int)+(b.size:Int) > IntKind.i64.max):=by have:=h.1; simp [IntKind.max,IntKind.signed,IntKind.bits]; omega
   have:=h.1
   simp [hg,binOp,Op.stringOp,IntKind.max,IntKind.signed,IntKind.bits]
   omega
  all_goals first | exact h.elim | exact QV.raw h (fun w' => by simp [hg,binOp,Op.stringOp])
 ·rename_i xs ys
  rw [guardB_iff,onSome_iff] at h
  obtain ⟨hg,b,hb,h⟩:=h
  have hx' := hx
  have hy' := hy
  simp only [rep] at hx' hy'
  obtain ⟨vx,rfl,_⟩:=hx'
  obtain ⟨vy,rfl,_⟩:=hy'
  have hg' : P.eqGuardType P.depth t=false:=by simpa using hg
  have he:=fun w' : World=>eqC_sound (P:=P) 8 t _ _ b hb hx hy 10000 (by omega) w'
  split at h
  ·exact QV.raw h (fun w' => by simp only [Sem.run_bind,run_eqGuard_agg w' _ t xo yo vx vy hg', Result.andThen_ok,run_eql_struct,he w'])
  ·exact QV.raw h (fun w' => by simp only [Sem.run_bind,run_eqGuard_agg w' _ t xo yo vx vy hg', Result.andThen_ok,run_neq_struct,he w'])
  ·exact h.elim
 ·exact h.elim
theorem q_nil {P:Program} {t:TypeId} {fn:Bool} {x:V} {x' : Value} {k:Bool→Prop} (hk:HeapOK ν F h w) (hx:rep F w ν x x') (hh:wNil P h t fn x k) :
  ∃ b,k b ∧ ∀ w', (Op.equal t x' (bif fn then .nilFunc else .slice none 0 0)).run P w' = .ok b w' := by
 unfold wNil at hh
 rw [onSome_iff] at hh
 obtain ⟨d,hd,hh⟩:=hh
 have un : ∀ z w', (Op.equal t x' z).run P w' = (Op.equalIn (9999+1) t x' z).run P w' := fun z w' => rfl
 split at hh
 ·simp only [rep] at hx; subst hx
  exact ⟨true,hh,fun w' => by rw [un,Op.equalIn]; simp [run_underlying hd]⟩
 ·simp only [rep,ri] at hx
  rcases hx with ⟨rfl,rfl⟩ | ⟨a,cap,_,rfl,_⟩
  ·exact ⟨true,nilN_true hh,fun w' => by rw [un,Op.equalIn]; simp [run_underlying hd]⟩
  ·exact ⟨false,nilN_false hh,fun w' => by rw [un,Op.equalIn]; simp [run_underlying hd]⟩
 ·rename_i e b lo len
  rw [guardB_iff] at hh
  obtain ⟨o,hb⟩:=has_iff.1 hh.1
  simp only [rep] at hx
  rcases hk.dom b o hb with ⟨⟨r,s', n'⟩,hat⟩ | ⟨hp,_⟩
  ·obtain ⟨_,cap,_,⟨_,_,rfl⟩,_⟩:=hx.2 r s' n' hat
   exact ⟨false,nilN_false hh.2,fun w' => by rw [un,Op.equalIn]; simp [run_underlying hd]⟩
  ·obtain ⟨_,h0,rfl⟩:=hx.1.2 hp
   subst h0
   exact ⟨true,nilN_true hh.2,fun w' => by rw [un,Op.equalIn]; simp [run_underlying hd]⟩
 ·simp only [rep] at hx; subst hx
  exact ⟨true,hh,fun w' => by rw [un,Op.equalIn]; simp [run_underlying hd]⟩
 ·simp only [rep] at hx
  obtain ⟨as,cs,rfl,_⟩:=hx
  exact ⟨false,hh,fun w' => by rw [un,Op.equalIn]; simp [run_underlying hd]⟩
 ·exact hh.elim
theorem q_isNil {P:Program} {fp:Option Id} {op:BinOp} {xo yo:Operand} {t:TypeId} {fn:Bool} {x:V} {x' : Value} {k:V→Prop} (hk:HeapOK ν F h w) (hx:rep F w ν x x') (hop:op = .eql∨op = .neq)
  (hh:wNil P h t fn x fun b=>k (.raw (.bool (bif op == .eql then b else !b)))) :
  QV P F ν w fp (do eqGuard op t xo yo x' (bif fn then .nilFunc else .slice none 0 0); binOp op t x' (bif fn then .nilFunc else .slice none 0 0)) k:=by
 have hx0:(∃ a l c,x' = .slice a l c∧fn=false)∨(fn=true∧(x' = .nilFunc ∨ ∃ f a c,x' = .func f a c)):=by
  have hh' := hh
  unfold wNil at hh'
  rw [onSome_iff] at hh'
  obtain ⟨d,hd,hh'⟩:=hh'
  split at hh'
  ·simp only [rep] at hx; exact .inl ⟨_,_,_,hx,rfl⟩
  ·simp only [rep,ri] at hx
   rcases hx with ⟨_,rfl⟩ | ⟨a,cap,_,rfl,_⟩
   ·exact .inl ⟨_,_,_,rfl,rfl⟩
   ·exact .inl ⟨_,_,_,rfl,rfl⟩
  ·rename_i e b lo len
   rw [guardB_iff] at hh'
   obtain ⟨o,hb⟩:=has_iff.1 hh'.1
   simp only [rep] at hx
   rcases hk.dom b o hb with ⟨⟨r,s', n'⟩,hat⟩ | ⟨hp,_⟩
   ·obtain ⟨_,cap,_,⟨_,_,rfl⟩,_⟩:=hx.2 r s' n' hat
    exact .inl ⟨_,_,_,rfl,rfl⟩
   ·exact .inl ⟨_,_,_,(hx.1.2 hp).2.2,rfl⟩
  ·simp only [rep] at hx; exact .inr ⟨rfl,.inl hx⟩
  ·simp only [rep] at hx
   obtain ⟨as,cs,rfl,_⟩:=hx
   exact .inr ⟨rfl,.inr ⟨_,_,_,rfl⟩⟩
  ·exact hh'.elim
 obtain ⟨b,hb,hr⟩:=q_nil hk hx hh
 have hg : ∀ w', (eqGuard op t xo yo x' (bif fn then .nilFunc else .slice none 0 0)).run P w' = .ok () w' := fun w' => by
  unfold eqGuard
  rcases hx0 with ⟨a,l,c,rfl,rfl⟩ | ⟨rfl,rfl | ⟨f,a,c,rfl⟩⟩ <;> rcases hop with rfl | rfl <;> rfl
 have hbin : ∀ w', (binOp op t x' (bif fn then .nilFunc else .slice none 0 0)).run P w' = .ok (.bool (bif op == .eql then b else !b)) w' := fun w' => by
  have hr:=hr w'
  rcases hx0 with ⟨a,l,c,rfl,rfl⟩ | ⟨rfl,rfl | ⟨f,a,c,rfl⟩⟩ <;> rcases hop with rfl | rfl <;> (simp only [cond_true,cond_false] at hr ⊢; simp [binOp,hr]; try (cases b <;> rfl))
 exact QV.raw hb (fun w' => by simp only [Sem.run_bind,hg w', Result.andThen_ok,hbin w'])
theorem q_un {P:Program} {fp:Option Id} {op:UnOp} {x:V} {x' : Value} {k:V→Prop} (hx:rep F w ν x x') (h:wUn op x k):QV P F ν w fp (Op.unary op x') k:=by
 unfold wUn at h
 split at h
 ·simp only [rep] at hx; subst hx; exact QV.raw h (fun w' => by simp [Op.unary,Op.intArith])
 ·simp only [rep] at hx; subst hx; exact QV.raw h (fun w' => by simp [Op.unary])
 ·exact h.elim
theorem byteV_iff {v:V} {n:Int} (h:byteV v=some n):v = .raw (.int .u8 n):=by
 unfold byteV at h
 split at h
 ·split at h
  ·cases h; rfl
  ·cases h
 ·cases h
theorem byteL_get : ∀ {es:List (List V)} {ns:List Int},byteL es=some ns→ns.length=es.length ∧ ∀ (j:Nat) (n:Int),ns[j]? = some n→es[j]? = some [.raw (.int .u8 n)]
 | [],ns,h=>by simp only [byteL,Option.some.injEq] at h; subst h; simp
 | row::r,ns,h=>by
  simp only [byteL] at h
  split at h
  ·rename_i v
   cases hv:byteV v with
   | none=>rw [hv] at h; cases h
   | some n =>
    cases hl:byteL r with
    | none=>rw [hv,hl] at h; cases h
    | some l =>
     rw [hv,hl] at h
     simp only [Option.bind_some,Option.map_some,Option.some.injEq] at h
     subst h
     obtain ⟨g1,g2⟩:=byteL_get hl
     have:=byteV_iff hv
     subst this
     refine ⟨by simp [g1],fun j m hj=>?_⟩
     cases j with
     | zero=>simp at hj; subst hj; rfl
     | succ j=>simpa using g2 j m (by simpa using hj)
  ·cases h
theorem fold_push : ∀ (ns:List Int) (s:ByteArray),ns.foldl (fun r n=>r.push (UInt8.ofNat n.toNat)) s=⟨⟨s.data.toList++ns.map fun n=>UInt8.ofNat n.toNat⟩⟩
 | [],s=>by cases s; simp
 | n::ns,s=>by
  rw [List.foldl_cons,fold_push ns]
  cases s
  simp [ByteArray.push]
theorem strOf_fold (ns:List Int):ns.foldl (fun r n=>r.push (UInt8.ofNat n.toNat)) ByteArray.empty=strOf ns:=by
 rw [fold_push]
 rfl
def slOf (x:V):Option Id:=match x with | .sl b _ _=>some b | _=>none
theorem q_bytes {P:Program} (hk:HeapOK ν F h w) {src dst e:TypeId} {x:V} {x' : Value} {k:V→Prop} (hs:P.underlying src=some (.slice e)) (he:P.underlying e=some (.int .u8)) (hd:P.underlying dst=some .string) (hx:rep F w ν x x') (hh:wBytes h x fun l=>k (.raw (.string (strOf l)))) :
  QV P F ν w (slOf x) (convert src dst x') k:=by
 have nil : ∀ l c,k (.raw (.string (strOf [])))→QV P F ν w (slOf x) (convert src dst (.slice none l c)) k:=fun l c hk' =>
  QV.raw hk' (fun w' => by rw [run_convert_bytes_string w' src dst e none l c hs he hd]; rfl)
 have key : ∀ (r o len cap:Nat) (ns:List Int),ns.length=len→(∀ w', Agree F ν (slOf x) w w' → ∀ (j:Nat) (n:Int),ns[j]? = some n→w'.cell? ⟨r,o+j,none⟩=some (.int .u8 n))→k (.raw (.string (strOf ns)))→QV P F ν w (slOf x) (convert src dst (.slice (some ⟨r,o,none⟩) len cap)) k:=by
  intro r o len cap ns hl hc hk'
  refine ⟨.string (strOf ns),.raw (.string (strOf ns)),hk', by simp only [rep],fun w' ha=>?_⟩
  rw [run_convert_bytes_string w' src dst e _ len cap hs he hd]
  have hcs:=run_loadCells_list (P:=P) w' ⟨r,o,none⟩ (ns.map (Value.int .u8)) (fun j v hv=>by
   rw [add_lit]
   simp only [List.getElem?_map,Option.map_eq_some_iff] at hv
   obtain ⟨n,hn,rfl⟩:=hv
   exact hc w' ha j n hn)
  rw [List.length_map,hl] at hcs
  rw [run_bytesToString w' _ len cap ns hcs,strOf_fold]
 unfold wBytes at hh
 split at hh
 ·rename_i s es
  rw [onSome_iff] at hh
  obtain ⟨ns,hns,hh⟩:=hh
  obtain ⟨g1,g2⟩:=byteL_get hns
  simp only [rep,ri] at hx
  rcases hx with ⟨rfl,rfl⟩ | ⟨⟨r,o,sp⟩,cap,hcap,rfl,hr⟩
  ·simp only [byteL,Option.some.injEq] at hns
   subst hns
   exact nil 0 0 hh
  ·by_cases hne:es=[]
   ·subst hne
    simp only [byteL,Option.some.injEq] at hns
    subst hns
    refine ⟨.string (strOf []),.raw (.string (strOf [])),hh,by simp only [rep],fun w' ha=>?_⟩
    rw [run_convert_bytes_string w' src dst e _ _ cap hs he hd]
    rfl
   ·obtain ⟨hsp,hF,hrows⟩:=hr.resolve_left hne
    simp only at hsp hF hrows
    subst hsp
    rw [riRows_iff] at hrows
    refine key r o _ cap ns g1 (fun w' ha j n hj=>?_) hh
    obtain ⟨k1,k2⟩:=hrows j _ (g2 j n hj)
    obtain ⟨z,k3,_,k4⟩:=k2 0 _ rfl
    simp only [ri] at k4
    subst k4
    simp only [List.length_cons,List.length_nil] at k1
    subst k1
    rw [cell_heap (a:=⟨r,o+j,none⟩) (ha.1 r hF)]
    simpa using k3
 ·rename_i b lo len
  rw [onRows_iff] at hh
  obtain ⟨s', p,es,hb,hh⟩:=hh
  simp only [guardB_iff,onSome_iff] at hh
  obtain ⟨hs', ns,hns,hh⟩:=hh
  have hs' := beq_eq hs'
  subst hs'
  obtain ⟨g1,g2⟩:=byteL_get hns
  simp only [rep] at hx
  by_cases hph:ν.ph b=true
  ·obtain ⟨rfl,rfl,rfl⟩:=hx.1.2 hph
   have:sub es 0 0=[]:=by simp [sub]
   rw [this] at hns
   simp only [byteL,Option.some.injEq] at hns
   subst hns
   exact nil 0 0 hh
  obtain ⟨⟨r,s'', n⟩,hat⟩:=hk.domP b _ hb (by simpa using hph)
  obtain ⟨rfl,k2,c,el,k3,k4,k5⟩:=hk.blkR hb hat
  obtain ⟨hle,cap,hcap,⟨o', ho', rfl⟩,_⟩:=hx.2 r 1 n hat
  rw [rowsC_iff] at k5
  have hlen:(sub es lo len).length=len:=by simp [sub]; omega
  refine key r o' len cap ns (g1.trans hlen) (fun w' ha j m hj=>?_) hh
  have hj' := g2 j m hj
  simp only [sub,List.getElem?_take,List.getElem?_drop] at hj'
  split at hj'
  ·have ho:=ho'.resolve_right (fun h=>by omega)
   subst ho
   obtain ⟨_,k6⟩:=k5 _ _ hj'
   obtain ⟨z,k7,_,k8⟩:=k6 0 _ rfl
   have k8:=repO_rep k8
   simp only [rep] at k8
   subst k8
   rw [cell_heap (a:=⟨r,lo * 1+j,none⟩) (ha.2 b r 1 n rfl hat),cell_of_row w r _ c el (0,0) k3]
   simpa using k7
  ·cases hj'
 ·simp only [rep] at hx
  subst hx
  exact nil 0 0 hh
 ·exact hh.elim
theorem q_conv {P:Program} (hk:HeapOK ν F h w) {src dst:TypeId} {x:V} {x' : Value} {k:V→Prop} {ds:TypeDesc} (hs:P.underlying src=some ds) (hx:rep F w ν x x') (h:wConv P h ds dst x k) :
  QV P F ν w (slOf x) (convert src dst x') k:=by
 unfold wConv at h
 rw [onSome_iff] at h
 obtain ⟨d,hd,h⟩:=h
 split at h
 ·split at h
  ·simp only [rep] at hx; subst hx
   exact QV.raw h (fun w' => by simp [convert,run_underlying hs,run_underlying hd,Conv.intToInt])
  ·exact h.elim
 ·split at h
  ·rw [onSome_iff] at h
   obtain ⟨de,he,h⟩:=h
   split at h
   ·split at h
    ·exact q_bytes hk hs he hd hx h
    ·exact h.elim
   ·exact h.elim
  ·exact h.elim
 ·exact h.elim
theorem q_fieldAddr {P:Program} {fp:Option Id} {s:TypeId} {x:V} {x' : Value} {f:Nat} {k:V→Prop} (hk:HeapOK ν F h w) (hx:rep F w ν x x') (hh:wFieldAddr P h s x f k) :
  QV P F ν w fp (Instr.fieldAt s x' f) k:=by
 unfold wFieldAddr at hh
 try simp only [onSome_iff] at hh
 obtain ⟨d,hd,hh⟩:=hh
 split at hh
 ·rename_i fs
  simp only [onSome_iff,guardB_iff] at hh
  obtain ⟨fd,hf,inf,hi,hz,hh⟩:=hh
  have hz' : inf.size≠0:=fun h0=>by simp [h0] at hz
  split at hh
  ·rename_i b i off
   try simp only [guardB_iff] at hh
   obtain ⟨o,hb⟩:=has_iff.1 hh.1
   simp only [rep] at hx
   obtain ⟨⟨r,s', n⟩,hat⟩:=hk.domP b o hb hx.1.2
   have hx' := hx.2 r s' n hat
   subst hx'
   refine QV.pure (.pointer (some ⟨r,i * s' + (off+fd.offset),none⟩)) _ hh.2 ?_ (fun w' => ?_)
   ·simp only [rep]
    refine ⟨hx.1,fun r' s'' n' hat' => ?_⟩
    rw [hat] at hat'
    simp at hat'
    obtain ⟨rfl,rfl,rfl⟩:=hat'
    rfl
   ·simp [Instr.fieldAt,run_underlying hd,hf,Instr.sureAddr,fieldPlace,sizeOf,typeInfo,hi,hz', add_lit,Nat.add_assoc]
  ·rename_i cs off
   simp only [rep,ri] at hx
   obtain ⟨r,o,rfl,hF,hc⟩:=hx
   refine QV.pure (.pointer (some ⟨r,o+(off+fd.offset),none⟩)) _ hh ?_ (fun w' => ?_)
   ·simp only [rep,ri]; exact ⟨r,o,rfl,hF,hc⟩
   ·simp [Instr.fieldAt,run_underlying hd,hf,Instr.sureAddr,fieldPlace,sizeOf,typeInfo,hi,hz', add_lit,Nat.add_assoc]
  ·exact hh.elim
 ·exact hh.elim
theorem q_part {P:Program} {fp:Option Id} {t:TypeId} {cs:List V} {vs:Array Value} {off:Nat} {p:Bool} {k:V→Prop} (hx:repL F w ν cs vs.toList) (hh:wLoad P t cs off p k) :
  QV P F ν w fp (part t vs off) k:=by
 unfold wLoad at hh
 rw [onSome_iff] at hh
 obtain ⟨d,hd,hh⟩:=hh
 have agg : ∀ (hda:(isAggD d)=true),onSome (P.info? t) (fun i=>guardB ((kinds P 8 t).length.beq i.size) (onTyped p (kinds P 8 t) (cs.drop off) fun cs=>k (.agg cs))) →
   QV P F ν w fp (part t vs off) k:=fun hda h=>by
  rw [onSome_iff] at h
  obtain ⟨i,hi,h⟩:=h
  rw [guardB_iff] at h
  obtain ⟨hkl,h⟩:=h
  obtain ⟨hl,cs', hk,hcs⟩:=onTyped_rep h
  rw [beq_eq hkl] at hl hcs
  refine QV.pure (.agg (vs.extract off (off+i.size))) _ hk ?_ (fun w' => by simp [part,isAgg_run hd,hda,sizeOf,typeInfo,hi])
  simp only [rep]
  refine ⟨_,rfl,hcs ?_⟩
  have:=repL_sub hx off i.size
  simpa [sub,Array.toList_extract,List.extract_eq_take_drop] using this
 rcases isAggD_cases d with ⟨fs,rfl⟩ | ⟨n,e,rfl⟩ | hda
 ·exact agg rfl hh
 ·exact agg rfl hh
 ·have h' : onSome cs[off]? fun v=>typed d p v k:=by
   cases d <;> first | exact hh | simp [isAggD] at hda
  rw [onSome_iff] at h'
  obtain ⟨v,hv,h'⟩:=h'
  obtain ⟨x,h1,h2⟩:=repL_get hx off v hv
  have h1' : vs[off]? = some x:=by simpa using h1
  obtain ⟨v', hv', hrv⟩:=typed_rep h'
  exact QV.pure x v' hv' (hrv h2) (fun w' => by simp [part,isAgg_run hd,hda,h1'])
theorem q_field {P:Program} {fp:Option Id} {s:TypeId} {x:V} {x' : Value} {f:Nat} {k:V→Prop} (hx:rep F w ν x x') (hh:wField P s x f k) :
  QV P F ν w fp (Instr.field s x' f) k:=by
 unfold wField at hh
 try simp only [onSome_iff] at hh
 obtain ⟨d,hd,hh⟩:=hh
 split at hh
 ·try simp only [onSome_iff] at hh
  obtain ⟨fd,hf,hh⟩:=hh
  split at hh
  ·simp only [rep] at hx
   obtain ⟨vs,rfl,hl⟩:=hx
   obtain ⟨y,v,h1,h2,h3⟩:=q_part (P:=P) (fp:=fp) hl hh
   exact ⟨y,v,h1,h2,fun w' ha=>by simp [Instr.field,run_underlying hd,hf,asAgg,h3 w' ha]⟩
  ·exact hh.elim
 ·exact hh.elim
theorem q_indexAddr {P:Program} {fp:Option Id} {t:TypeId} {x i:V} {x' i' : Value} {k:V→Prop} (hk:HeapOK ν F h w) (hx:rep F w ν x x') (hi:rep F w ν i i') (hh:wIndexAddr P h t x i k) :
  QV P F ν w fp (Instr.indexAt t x' i') k:=by
 unfold wIndexAddr at hh
 split at hh
 ·rename_i kk n
  simp only [rep] at hi
  subst hi
  simp only [onNat_iff,onSome_iff] at hh
  obtain ⟨m,rfl,d,hd,hh⟩:=hh
  split at hh
  ·rename_i e
   try simp only [onSome_iff] at hh
   obtain ⟨inf,hinf,hh⟩:=hh
   split at hh
   ·rename_i s es
    try simp only [onSome_iff,need_iff] at hh
    obtain ⟨rfl,row,hrow,hh⟩:=hh
    have hlt:m<es.length:=(List.getElem?_eq_some_iff.1 hrow).1
    simp only [rep,ri] at hx
    rcases hx with ⟨rfl,_⟩ | ⟨⟨r,o,sp⟩,cap,hcap,rfl,hr⟩
    ·simp at hlt
    ·obtain ⟨hsp,hF,hrows⟩:=hr.resolve_left (fun h0=>by rw [h0] at hlt; simp at hlt)
     simp only at hsp hF hrows
     subst hsp
     rw [riRows_iff] at hrows
     obtain ⟨g1,g2⟩:=hrows m row hrow
     refine QV.pure (.pointer (some ⟨r,o+m * inf.size+0,none⟩)) _ hh ?_ (fun w' => ?_)
     ·simp only [rep,ri]
      exact ⟨r,o+m * inf.size,rfl,hF,by rw [riCells_iff]; exact g2⟩
     ·simp [Instr.indexAt,asIntOf,run_underlying hd,hlt,sizeOf,typeInfo,hinf,add_lit]
   ·rename_i b lo len
    rw [onRows_iff] at hh
    obtain ⟨s,p,es,hb,hh⟩:=hh
    simp only [guardB_iff,need_iff] at hh
    obtain ⟨hs,hlt,hh⟩:=hh
    have hs:=beq_eq hs
    subst hs
    simp only [rep] at hx
    obtain ⟨⟨r,s', n'⟩,hat⟩:=hk.domP b _ hb (by
     cases hq:ν.ph b with
     | false=>rfl
     | true=>have:=(hx.1.2 hq).2.1; omega)
    obtain ⟨g1,cap,g2,⟨o', ho', rfl⟩,_⟩:=hx.2 r s' n' hat
    obtain ⟨rfl,_⟩:=hk.blkR hb hat
    have ho:=ho'.resolve_right (fun h=>by omega)
    subst ho
    refine QV.pure (.pointer (some ⟨r,(lo+m) * inf.size+0,none⟩)) _ hh ?_ (fun w' => ?_)
    ·simp only [rep]
     refine ⟨⟨hx.1.1,?_⟩,fun r' s'' n'' hat' => ?_⟩
     ·cases hq:ν.ph b with
      | false=>rfl
      | true=>have:=(hx.1.2 hq).2.1; omega
     rw [hat] at hat'
     simp at hat'
     obtain ⟨rfl,rfl,rfl⟩:=hat'
     rfl
    ·simp [Instr.indexAt,asIntOf,run_underlying hd,hlt,sizeOf,typeInfo,hinf,add_lit,Nat.add_mul]
   ·rename_i b i off len
    simp only [guardB_iff,need_iff] at hh
    obtain ⟨hb,hlt,hh⟩:=hh
    obtain ⟨o,hb⟩:=has_iff.1 hb
    simp only [rep] at hx
    obtain ⟨⟨r,s', n'⟩,hat⟩:=hk.domP b o hb hx.1.2
    obtain ⟨cap,g2,rfl⟩:=hx.2 r s' n' hat
    refine QV.pure (.pointer (some ⟨r,i * s' + (off+m * inf.size),none⟩)) _ hh ?_ (fun w' => ?_)
    ·simp only [rep]
     refine ⟨hx.1,fun r' s'' n'' hat' => ?_⟩
     rw [hat] at hat'
     simp at hat'
     obtain ⟨rfl,rfl,rfl⟩:=hat'
     rfl
    ·simp [Instr.indexAt,asIntOf,run_underlying hd,hlt,sizeOf,typeInfo,hinf,add_lit,Nat.add_assoc]
   ·exact hh.elim
  ·rename_i len e
   try simp only [onSome_iff,need_iff] at hh
   obtain ⟨inf,hinf,hlt,hh⟩:=hh
   split at hh
   ·rename_i b i off
    try simp only [guardB_iff] at hh
    obtain ⟨o,hb⟩:=has_iff.1 hh.1
    simp only [rep] at hx
    obtain ⟨⟨r,s', n'⟩,hat⟩:=hk.domP b o hb hx.1.2
    have hx' := hx.2 r s' n' hat
    subst hx'
    refine QV.pure (.pointer (some ⟨r,i * s' + (off+m * inf.size),none⟩)) _ hh.2 ?_ (fun w' => ?_)
    ·simp only [rep]
     refine ⟨hx.1,fun r' s'' n'' hat' => ?_⟩
     rw [hat] at hat'
     simp at hat'
     obtain ⟨rfl,rfl,rfl⟩:=hat'
     rfl
    ·simp [Instr.indexAt,asIntOf,run_underlying hd,hlt,sizeOf,typeInfo,hinf,add_lit,Instr.sureAddr,Nat.add_assoc]
   ·rename_i cs off
    simp only [rep,ri] at hx
    obtain ⟨r,o,rfl,hF,hc⟩:=hx
    refine QV.pure (.pointer (some ⟨r,o+(off+m * inf.size),none⟩)) _ hh ?_ (fun w' => ?_)
    ·simp only [rep,ri]; exact ⟨r,o,rfl,hF,hc⟩
    ·simp [Instr.indexAt,asIntOf,run_underlying hd,hlt,sizeOf,typeInfo,hinf,add_lit,Instr.sureAddr,Nat.add_assoc]
   ·exact hh.elim
  ·exact hh.elim
 ·exact hh.elim
theorem q_index {P:Program} {fp:Option Id} {t:TypeId} {x i:V} {x' i' : Value} {k:V→Prop} (hx:rep F w ν x x') (hi:rep F w ν i i') (hh:wIndex P t x i k) :
  QV P F ν w fp (Instr.index t x' i') k:=by
 unfold wIndex at hh
 split at hh
 ·rename_i kk n
  simp only [rep] at hi
  subst hi
  simp only [onNat_iff,onSome_iff] at hh
  obtain ⟨m,rfl,d,hd,hh⟩:=hh
  split at hh
  ·rename_i len e cs
   try simp only [onSome_iff,need_iff] at hh
   obtain ⟨inf,hinf,hlt,hh⟩:=hh
   simp only [rep] at hx
   obtain ⟨vs,rfl,hl⟩:=hx
   obtain ⟨y,v,h1,h2,h3⟩:=q_part (P:=P) (fp:=fp) hl hh
   exact ⟨y,v,h1,h2,fun w' ha=>by simp [Instr.index,asIntOf,run_underlying hd,hlt,sizeOf,typeInfo,hinf,h3 w' ha]⟩
  ·rename_i s
   try simp only [onSome_iff] at hh
   obtain ⟨b,hb,hh⟩:=hh
   simp only [rep] at hx
   subst hx
   exact QV.raw hh (fun w' => by simp [Instr.index,asIntOf,run_underlying hd,hb])
  ·exact hh.elim
 ·exact hh.elim
theorem run_getMap {P:Program} {w:World} {r:Nat} {es:Array MapEntry} {clock:Nat} (hb:w.heap[r]? = some (.map es clock)):(getObj r).run P w = .ok (.map es clock) w:=by
 simp [getObj,Sem.run,hb]
theorem q_len {P:Program} {fp:Option Id} {t:TypeId} {ts:List TypeId} {ty:TypeId} {x:V} {x' : Value} {k:V→Prop} (hk:HeapOK ν F h w) (hx:rep F w ν x x') (hfp : ∀ b,x = .mp b→fp=some b) (hh:wLen P h t x k) :
  QV P F ν w fp (Builtin.len_ (t::ts).toArray ty #[x']) k:=by
 unfold wLen at hh
 try simp only [onSome_iff] at hh
 obtain ⟨d,hd,hh⟩:=hh
 split at hh
 ·simp only [rep] at hx; subst hx
  exact QV.raw hh (fun w' => by simp [Builtin.len_,run_underlying hd,goInt])
 ·rename_i e s es
  simp only [rep,ri] at hx
  rcases hx with ⟨rfl,rfl⟩ | ⟨a,cap,_,rfl,_⟩
  ·exact QV.raw (z := .int .i64 0) hh (fun w' => by simp [Builtin.len_,run_underlying hd,goInt])
  ·exact QV.raw hh (fun w' => by simp [Builtin.len_,run_underlying hd,goInt])
 ·rename_i e b lo len
  rw [guardB_iff] at hh
  obtain ⟨hlive,hh⟩:=hh
  obtain ⟨o,hb⟩:=has_iff.1 hlive
  simp only [rep] at hx
  rcases hk.dom b o hb with ⟨⟨r,s', n'⟩,hat⟩ | ⟨hp,_⟩
  ·obtain ⟨g1,cap,g2,⟨_,_,rfl⟩,_⟩:=hx.2 r s' n' hat
   exact QV.raw hh (fun w' => by simp [Builtin.len_,run_underlying hd,goInt])
  ·obtain ⟨_,h0,rfl⟩:=hx.1.2 hp
   subst h0
   exact QV.raw hh (fun w' => by simp [Builtin.len_,run_underlying hd,goInt])
 ·rename_i b i off len
  rw [guardB_iff] at hh
  obtain ⟨hb,hh⟩:=hh
  obtain ⟨o,hb⟩:=has_iff.1 hb
  simp only [rep] at hx
  obtain ⟨⟨r,s', n'⟩,hat⟩:=hk.domP b o hb hx.1.2
  obtain ⟨cap,g2,rfl⟩:=hx.2 r s' n' hat
  exact QV.raw hh (fun w' => by simp [Builtin.len_,run_underlying hd,goInt])
 ·rw [onMapF_iff] at hh
  rcases hh with ⟨es,rfl,hh⟩ | ⟨b,es,rfl,hb,hh⟩ | ⟨rfl,hh⟩
  ·simp only [rep] at hx
   obtain ⟨r,ents,rfl,hF,hw,he⟩:=fmp_at hx
   refine ⟨.int .i64 es.length,_,hh,by simp only [rep],fun w' ha=>?_⟩
   have hw' : w'.heap[r]? = some (.map ents es.length):=by rw [ha.1 r hF]; exact hw
   simp [Builtin.len_,run_underlying hd,goInt,run_getMap hw', he.1]
  ·obtain ⟨r,s,n,ents,hat,hw,he⟩:=hk.blkM hb
   simp only [rep] at hx
   have:=hx.2 r s n hat
   subst this
   refine ⟨.int .i64 es.length,_,hh,by simp only [rep],fun w' ha=>?_⟩
   have hw' : w'.heap[r]? = some (.map ents es.length):=by rw [ha.2 _ r s n (hfp _ rfl) hat]; exact hw
   simp [Builtin.len_,run_underlying hd,goInt,run_getMap hw', he.1]
  ·simp only [rep] at hx; subst hx
   exact QV.raw (z := .int .i64 0) hh (fun w' => by simp [Builtin.len_,run_underlying hd,goInt])
 ·simp only [rep] at hx; subst hx
  exact QV.raw hh (fun w' => by simp [Builtin.len_,run_underlying hd,goInt])
 ·exact hh.elim
theorem q_cap {P:Program} {fp:Option Id} {t:TypeId} {ts:List TypeId} {ty:TypeId} {x:V} {x' : Value} {k:V→Prop} (hx:rep F w ν x x') (hh:wCap P t x k) :
  QV P F ν w fp (Builtin.cap_ (t::ts).toArray ty #[x']) k:=by
 unfold wCap at hh
 rw [onSome_iff] at hh
 obtain ⟨d,hd,hh⟩:=hh
 split at hh
 ·simp only [rep] at hx; subst hx
  exact QV.raw hh (fun w' => by simp [Builtin.cap_,run_underlying hd,goInt])
 ·exact hh.elim
theorem splice {α:Type} (l m:List α) (a q:Nat) (h:a+m.length≤l.length) :
  (l.take a++m++l.drop (a+m.length))[q]? = if q<a then l[q]? else if q<a+m.length then m[q - a]? else l[q]? := by
 have ha:(l.take a).length=a:=by simp; omega
 by_cases h1:q<a
 ·rw [if_pos h1,List.append_assoc,List.getElem?_append_left (by omega),List.getElem?_take,if_pos h1]
 ·rw [if_neg h1]
  by_cases h2:q<a+m.length
  ·rw [if_pos h2,List.getElem?_append_left (by simp; omega),List.getElem?_append_right (by omega),ha]
  ·rw [if_neg h2,List.getElem?_append_right (by simp; omega),List.getElem?_drop]
   congr 1
   simp
   omega
theorem foldl_set (off:Nat) : ∀ (l:List Value) (k:Nat) (c:Array Value),
  ((l.zipIdx k).foldl (fun (cs:Array Value) (p:Value×Nat)=>cs.setIfInBounds (off+p.2) p.1) c).size=c.size ∧
  ∀ q,((l.zipIdx k).foldl (fun (cs:Array Value) (p:Value×Nat)=>cs.setIfInBounds (off+p.2) p.1) c)[q]? = if off+k≤q∧q<off+k+l.length∧q<c.size then l[q - (off+k)]? else c[q]?
 | [],k,c=>by
  simp
  intro q h1 h2
  omega
 | x::l,k,c=>by
  have ih:=foldl_set off l (k+1) (c.setIfInBounds (off+k) x)
  simp only [List.zipIdx_cons,List.foldl_cons]
  refine ⟨by rw [ih.1]; simp,fun q=>?_⟩
  rw [ih.2 q]
  simp only [Array.size_setIfInBounds,List.length_cons]
  by_cases h1:q=off+k
  ·subst h1
   rw [if_neg (by omega)]
   by_cases h2:off+k<c.size
   ·rw [if_pos (by omega)]
    simp [h2]
   ·rw [if_neg (by omega)]
    simp [Array.getElem?_eq_none (Nat.le_of_not_lt h2)]
    try omega
  ·rw [Array.getElem?_setIfInBounds_ne (by omega)]
   by_cases h2:off+(k+1)≤q∧q<off+(k+1)+l.length∧q<c.size
   ·rw [if_pos h2,if_pos (by omega),show q - (off+k)=q - (off+(k+1))+1 by omega,List.getElem?_cons_succ]
   ·rw [if_neg h2,if_neg (by omega)]
theorem ofValue_cells {z:Value} {cs:List V} (hz:(V.ofValue z).cells=some cs) (ho:allOne h cs=true):riL F w cs z.cells.toList∧z.cells.size=cs.length:=by
 have hraw : ∀ l:List Value,riL F w (l.map .raw) l:=by
  intro l; induction l with
  | nil=>simp [riL]
  | cons x l ih=>simp only [List.map,riL]; exact ⟨x,l,rfl,by simp [ri],ih⟩
 cases z <;> simp only [V.ofValue,V.cells,Option.some.injEq,reduceCtorEq] at hz
 case agg c=>subst hz; exact ⟨hraw _,by simp [Value.cells]⟩
 all_goals
  subst hz
  exact ⟨by simp [Value.cells,riL,ri],by simp [Value.cells]⟩
theorem places_run {P:Program} (w:World) : ∀ (fs:List Field),(fs.all fun fd=>(P.info? fd.type).isSome)=true →
  ∃ places:List (Nat×Nat),(fs.mapM fun f=>do pure (f.offset,← sizeOf f.type):Sem (List (Nat×Nat))).run P w = .ok places w ∧
   ∀ i:Nat,places[i]? = (fs[i]?).bind fun fd=>(P.info? fd.type).map fun inf=>(fd.offset,inf.size)
 | [],_=>⟨[],by simp,by simp⟩
 | fd::fs,h=>by
  simp only [List.all_cons,Bool.and_eq_true] at h
  obtain ⟨inf,hi⟩:=Option.isSome_iff_exists.1 h.1
  obtain ⟨pl,h1,h2⟩:=places_run w fs h.2
  refine ⟨(fd.offset,inf.size)::pl,?_,fun i=>?_⟩
  ·simp only [List.mapM_cons,Sem.run_bind,sizeOf,typeInfo,run_program,Result.andThen_ok,hi,Sem.run_pure]
   simp only [sizeOf,typeInfo] at h1
   first
    | rw [h1]; rfl
    | (simp [hi]; simp at h1; rw [h1]; rfl)
  ·cases i with
   | zero=>simp [hi]
   | succ i=>simpa using h2 i
theorem fill_cells {ρV:Operand→V} {ρ:Operand→Value} (hρ : ∀ x,rep F w ν (ρV x) (ρ x)) (hk:HeapOK ν F h w) {pl pl' : Nat→Option (Nat×Nat)} (hpl : ∀ i,pl' i=pl i) {K:List V→Prop} :
  ∀ (parts:List (Nat×Operand)) (vs:List V) (c:Array Value),repL F w ν vs c.toList→fillCells h pl vs (parts.map fun p=>(p.1,ρV p.2)) K →
   ∃ vs' c', K vs' ∧ Instr.fill pl' c (parts.map fun p=>(p.1,ρ p.2))=some c' ∧ repL F w ν vs' c'.toList
 | [],vs,c,h1,hf=>⟨vs,c,by simpa [fillCells] using hf,by simp [Instr.fill],h1⟩
 | (i,x)::parts,vs,c,h1,hf=>by
  simp only [List.map,fillCells,forceL_eq,onSome_iff,guardB_iff,Bool.and_eq_true] at hf
  obtain ⟨⟨off,size⟩,hat,cs,hcs,⟨⟨hl,hle⟩,ho⟩,hf⟩:=hf
  have hl:=beq_eq hl
  have hle:=Nat.le_of_ble_eq_true hle
  simp only at hl hle hf
  have hcells:=rep_cells (hρ x) hcs hk ho
  have hvl:(ρ x).cells.size=size:=by have:=repL_length hcells; simp at this; omega
  have hcl:=repL_length h1
  let c' : Array Value:=(ρ x).cells.zipIdx.foldl (fun cs (c,j)=>cs.setIfInBounds (off+j) c) c
  have hfold:=foldl_set off (ρ x).cells.toList 0 c
  have hc' : c' = ((ρ x).cells.toList.zipIdx 0).foldl (fun (cs:Array Value) (p:Value×Nat)=>cs.setIfInBounds (off+p.2) p.1) c:=by
   simp only [c', ← Array.foldl_toList,Array.toList_zipIdx]
  rw [← hc'] at hfold
  have hsp : ∀ q,(vs.take off++cs++vs.drop (off+size))[q]? = if q<off then vs[q]? else if q<off+cs.length then cs[q - off]? else vs[q]? := fun q=>by
   have:=splice vs cs off q (by omega)
   rw [hl] at this
   rw [this,hl]
  have hrep:repL F w ν (vs.take off++cs++vs.drop (off+size)) c'.toList:=by
   refine repL_of ?_ (fun q v y hv hy=>?_)
   ·simp only [Array.length_toList] at hcl
    simp only [Array.length_toList,hfold.1,List.length_append,List.length_take,List.length_drop]
    omega
   ·rw [hsp] at hv
    have hy' : c'[q]? = some y:=by simpa using hy
    rw [hfold.2] at hy'
    have hszl:(ρ x).cells.toList.length=size:=by simpa using hvl
    simp only [Array.length_toList] at hcl
    by_cases q1:q<off
    ·rw [if_pos q1] at hv
     rw [if_neg (by omega)] at hy'
     obtain ⟨z,z1,z2⟩:=repL_get h1 q v hv
     have:c[q]? = some z:=by simpa using z1
     rw [this] at hy'; simp at hy'; exact hy' ▸ z2
    ·rw [if_neg q1] at hv
     by_cases q2:q<off+cs.length
     ·rw [if_pos q2] at hv
      rw [if_pos (by omega)] at hy'
      obtain ⟨z,z1,z2⟩:=repL_get hcells (q - off) v hv
      rw [show q - (off+0)=q - off by omega,z1] at hy'
      simp at hy'; exact hy' ▸ z2
     ·rw [if_neg q2] at hv
      rw [if_neg (by omega)] at hy'
      obtain ⟨z,z1,z2⟩:=repL_get h1 q v hv
      have:c[q]? = some z:=by simpa using z1
      rw [this] at hy'; simp at hy'; exact hy' ▸ z2
  obtain ⟨vs', c'', q1,q2,q3⟩:=fill_cells hρ hk hpl parts _ c' hrep hf
  refine ⟨vs', c'', q1,?_,q3⟩
  have hcond : ¬ ((ρ x).cells.size≠size∨off+(ρ x).cells.size > c.size):=by
   simp only [Array.length_toList] at hcl
   omega
  simp only [List.map,Instr.fill,hpl,hat]
  rw [if_neg (by simp only [Bool.or_eq_true,decide_eq_true_eq]; exact hcond)]
  exact q2
theorem q_build {P:Program} {fp:Option Id} {ρV:Operand→V} {ρ:Operand→Value} (hρ : ∀ x,rep F w ν (ρV x) (ρ x)) (hk:HeapOK ν F h w) {t:TypeId} {parts:Array (Nat×Operand)} {k:V→Prop}
  (hh:wBuild P h t (parts.toList.map fun p=>(p.1,ρV p.2)) k):QV P F ν w fp (Instr.build t (parts.map fun (i,x)=>(i,ρ x))) k:=by
 unfold wBuild at hh
 simp only [onSome_iff,guardB_iff,Bool.and_eq_true,zeroRow,Option.bind_eq_some_iff] at hh
 obtain ⟨d,hd,inf,hi,z,⟨zx,hzx,hz⟩,⟨hp,ho⟩,hf⟩:=hh
 obtain ⟨hzc,_⟩:=ofValue_cells (F:=F) (w:=w) hz ho
 have hmap:(parts.map fun (i,x)=>(i,ρ x)).toList=parts.toList.map fun p=>(p.1,ρ p.2):=by simp
 cases d <;> simp only [placesOK,Bool.false_eq_true] at hp
 case struct fs =>
  obtain ⟨pl,h1,h2⟩:=places_run (P:=P) w fs.toList hp
  have hpl : ∀ i,(pl.toArray)[i]? = placeOf P (.struct fs) i:=fun i=>by simp [placeOf,h2]
  obtain ⟨vs', c', q1,q2,q3⟩:=fill_cells hρ hk hpl parts.toList z zx.cells (riL_repL _ _ hzc) hf
  refine QV.pure (.agg c') (.agg vs') q1 (by simp only [rep]; exact ⟨c', rfl,q3⟩) (fun w' => ?_)
  obtain ⟨pl', h1', h2'⟩:=places_run (P:=P) w' fs.toList hp
  have hpp:pl' = pl:=List.ext_getElem? fun i=>by rw [h2,h2']
  subst hpp
  have hm:(fs.mapM fun f=>do pure (f.offset,← sizeOf f.type):Sem (Array (Nat×Nat)))=List.toArray <$> (fs.toList.mapM fun f=>do pure (f.offset,← sizeOf f.type)):=by
   rw [← List.mapM_toArray]
  simp only [Instr.build,zeroValue,typeInfo,Sem.run_bind,run_program,Result.andThen_ok,hi,Sem.run_pure,hzx,run_underlying hd,hm,Sem.run_map,h1', hmap,q2]
 case array n e =>
  obtain ⟨ei,hei⟩:=Option.isSome_iff_exists.1 hp
  obtain ⟨vs', c', q1,q2,q3⟩:=fill_cells (pl' := fun i=>some (i * ei.size,ei.size)) hρ hk (fun i=>by simp [placeOf,hei]) parts.toList z zx.cells (riL_repL _ _ hzc) hf
  refine QV.pure (.agg c') (.agg vs') q1 (by simp only [rep]; exact ⟨c', rfl,q3⟩) (fun w' => ?_)
  simp only [Instr.build,zeroValue,typeInfo,sizeOf,Sem.run_bind,run_program,Result.andThen_ok,hi,hei,Sem.run_pure,hzx,run_underlying hd,hmap,q2]
theorem bound_run {P:Program} {d:Nat} {x:Option V} {x' : Option Value} {k:Nat→Prop} (hx : ∀ v,x=some v → ∃ v', x' = some v' ∧ rep F w ν v v') (hn:x=none→x' = none) (hh:wBound d x k) :
  ∃ n:Nat,k n∧((x=none∧x' = none∧n=d) ∨ ∃ kk,x' = some (.int kk n)):=by
 unfold wBound at hh
 split at hh
 ·exact ⟨d,hh,.inl ⟨rfl,hn rfl,rfl⟩⟩
 ·rename_i kk n
  rw [onNat_iff] at hh
  obtain ⟨m,rfl,hk⟩:=hh
  obtain ⟨v', h1,h2⟩:=hx _ rfl
  simp only [rep] at h2
  exact ⟨m,hk,.inr ⟨kk,by rw [h1,h2]⟩⟩
 ·exact hh.elim
theorem bounds_run {P:Program} (b:Bool) (len cap n m:Nat) {lo hi:Option Value} (w:World) (hhi:(hi=none∧m=len) ∨ ∃ kk,hi=some (.int kk m)) (hlo:(lo=none∧n=0) ∨ ∃ kk,lo=some (.int kk n))
  (h1:m≤cap) (h2:n≤m):(Instr.sliceBounds b len cap lo hi none).run P w = .ok (n,m,cap) w:=by
 rcases hhi with ⟨rfl,rfl⟩ | ⟨kk,rfl⟩ <;> rcases hlo with ⟨rfl,rfl⟩ | ⟨kk', rfl⟩ <;> simp [Instr.sliceBounds,Instr.sliceBound,asIntOf,h1,h2]
theorem bounds3_run {P:Program} (b:Bool) (len cap n m c:Nat) {lo:Option Value} {kk kc:IntKind} (w:World) (hlo:(lo=none∧n=0) ∨ ∃ kk,lo=some (.int kk n))
  (h0:c≤cap) (h1:m≤c) (h2:n≤m):(Instr.sliceBounds b len cap lo (some (.int kk m)) (some (.int kc c))).run P w = .ok (n,m,c) w:=by
 rcases hlo with ⟨rfl,rfl⟩ | ⟨kk', rfl⟩ <;> simp [Instr.sliceBounds,Instr.sliceBound,asIntOf,h0,h1,h2]
theorem cut_lst {s a b m:Nat} {es:List (List V)} {A:Addr} {sz:Nat} (hr:es=[]∨(A.spot=none∧F A.block∧riRows F w A.block s es A.off)) (hs:es≠[]→s=sz) (h3:b≤es.length) (h4:a≤b) (hm:b≤m) :
  rep F w ν (.lst s (sub es a (b - a))) (.slice (some (if m=a then A else A.add (a * sz))) (b - a) (m - a)):=by
 have hlen:(sub es a (b - a)).length=b - a:=by simp [sub]; omega
 simp only [rep,ri]
 refine .inr ⟨_,m - a,by omega,by rw [hlen],?_⟩
 by_cases hne:sub es a (b - a)=[]
 ·exact .inl hne
 ·right
  have hlt:a<b:=by
   refine Nat.lt_of_not_le fun hle=>hne (List.eq_nil_of_length_eq_zero ?_)
   rw [hlen]; omega
  have hes:es≠[]:=fun h0=>by subst h0; simp at h3; omega
  obtain ⟨q1,q2,q3⟩:=hr.resolve_left hes
  obtain ⟨r,o,sp⟩:=A
  simp only at q1 q2 q3
  subst q1
  have hs:=hs hes
  subst hs
  rw [if_neg (by omega),add_lit]
  refine ⟨rfl,q2,?_⟩
  rw [riRows_iff] at q3 ⊢
  intro i row hrow
  simp only [Clean.sub,List.getElem?_take,List.getElem?_drop] at hrow
  split at hrow
  ·obtain ⟨k1,k2⟩:=q3 _ row hrow
   refine ⟨k1,fun j v hj=>?_⟩
   obtain ⟨y,k3,k4⟩:=k2 j v hj
   refine ⟨y,?_,k4⟩
   rw [← k3]
   congr 2
   rw [Nat.add_mul]; dsimp only; omega
  ·simp at hrow
theorem cut_sl {bl:Id} {off len r s n cap a b m o:Nat} {c:Array Value} {el:TypeId} {fr:Nat×Nat} (ho:o=off * s∨(cap=0∧off≠0)) (hlt:bl.lt ν.nxt ν.cnt) (hph:ν.ph bl=false) (hat:ν.at_ bl=some (r,s,n)) (hn:off+len≤n) (hc:w.heap[r]? = some (.cells c el fr)) (hcs:(off+cap) * s≤c.size)
  (h3:b≤len) (h4:a≤b) (hm:b≤m) (hmc:m≤cap) {k:V→Prop} (hh:k (.sl bl (off+a) (b - a))) :
  ∃ v,k v∧rep F w ν v (.slice (some (if m=a then ⟨r,o,none⟩ else (⟨r,o,none⟩:Addr).add (a * s))) (b - a) (m - a)):=by
 refine ⟨_,hh,?_⟩
 simp only [rep]
 refine ⟨⟨hlt,fun hq=>by rw [hph] at hq; cases hq⟩,fun r' s'' n'' hat' => ?_⟩
 rw [hat] at hat'
 simp at hat'
 obtain ⟨rfl,rfl,rfl⟩:=hat'
 refine ⟨by omega,m - a,by omega,?_,c,el,fr,hc,?_⟩
 ·by_cases hma:m=a
  ·refine ⟨o,?_,by rw [if_pos hma]⟩
   by_cases h0:off+a=0
   ·have h1:off=0:=by omega
    have h2:a=0:=by omega
    subst h1 h2
    rcases ho with ho | ho
    ·exact .inl (by rw [ho])
    ·exact absurd rfl ho.2
   ·exact .inr ⟨by omega,h0⟩
  ·refine ⟨o+a * s,.inl ?_,by rw [if_neg hma,add_lit]⟩
   rw [ho.resolve_right (fun h=>by omega),Nat.add_mul]
 ·have:(off+a+(m - a)) * s≤(off+cap) * s:=Nat.mul_le_mul_right _ (by omega)
  omega
theorem cut_lsx {s a b:Nat} {es:List (List V)} {A:Addr} {sz:Nat} (hr:es=[]∨(A.spot=none∧F A.block∧riRows F w A.block s es A.off)) (hs:es≠[]→s=sz) (h3:b≤es.length) (h4:a≤b) :
  rep F w ν (.lsx s (sub es a (b - a))) (.slice (some (if b=a then A else A.add (a * sz))) (b - a) (b - a)):=by
 have hlen:(sub es a (b - a)).length=b - a:=by simp [sub]; omega
 have h:=cut_lst (F:=F) (w:=w) (ν:=ν) (m:=b) hr hs h3 h4 (Nat.le_refl _)
 simp only [rep,ri] at h ⊢
 rcases h with ⟨h1,h2⟩ | ⟨A', cap,h1,h2,h3'⟩
 ·cases h2
 ·simp only [Value.slice.injEq,Option.some.injEq] at h2
  obtain ⟨rfl,_,_⟩:=h2
  exact .inr ⟨_,by rw [hlen],h3'⟩
theorem q_slice {P:Program} {fp:Option Id} {t:TypeId} {x:V} {x' : Value} {lo hi mx:Option Operand} {ρV:Operand→V} {ρ:Operand→Value} (hρ : ∀ x,rep F w ν (ρV x) (ρ x)) (hk:HeapOK ν F h w) {k:V→Prop}
  (hx:rep F w ν x x') (hh:wSlice P h t x (lo.map ρV) (hi.map ρV) (mx.map ρV) k):QV P F ν w fp (Instr.sliceAt t x' (lo.map ρ) (hi.map ρ) (mx.map ρ)) k:=by
 have bnd : ∀ {d:Nat} {o:Option Operand} {K:Nat→Prop},wBound d (o.map ρV) K → ∃ n:Nat,K n∧((o.map ρ=none∧n=d) ∨ ∃ kk,o.map ρ=some (.int kk n)):=by
  intro d o K hb
  obtain ⟨n,h1,h2⟩:=bound_run (P:=P) (F:=F) (w:=w) (ν:=ν) (x' := o.map ρ) (fun v hv=>by
   cases o with
   | none=>simp at hv
   | some o=>simp at hv; exact ⟨ρ o,rfl,hv ▸ hρ o⟩) (fun hn=>by cases o <;> simp at hn ⊢) hb
  rcases h2 with ⟨_,h3,h4⟩ | h3
  ·exact ⟨n,h1,.inl ⟨h3,h4⟩⟩
  ·exact ⟨n,h1,.inr h3⟩
 unfold wSlice at hh
 split at hh
 ·rename_i hmx
  have hmx' : mx.map ρ=none:=by cases mx <;> simp at hmx ⊢
  rw [onSome_iff] at hh
  obtain ⟨d,hd,hh⟩:=hh
  split at hh
  ·rename_i s
   simp only [rep] at hx; subst hx
   obtain ⟨b,hh,h1⟩:=bnd hh
   obtain ⟨a,hh,h2⟩:=bnd hh
   simp only [need_iff] at hh
   obtain ⟨h3,h4,hh⟩:=hh
   refine QV.raw hh (fun w' => ?_)
   have:=bounds_run (P:=P) false s.size s.size a b w' h1 h2 h3 h4
   rw [hmx']
   simp [Instr.sliceAt,Instr.slice,run_underlying hd,this]
  ·rename_i e s es
   rw [onSome_iff] at hh
   obtain ⟨inf,hi', hh⟩:=hh
   obtain ⟨b,hh,h1⟩:=bnd hh
   obtain ⟨a,hh,h2⟩:=bnd hh
   simp only [need_iff,guardB_iff] at hh
   obtain ⟨h3,h4,h5,hh⟩:=hh
   have h5:=emp_or' h5
   simp only [rep,ri] at hx
   rcases hx with ⟨rfl,rfl⟩ | ⟨A,cap,hcap,rfl,hr⟩
   ·simp only [List.length_nil,Nat.le_zero_eq] at h3
    subst h3
    have:a=0:=by omega
    subst this
    refine QV.pure (.slice none 0 0) _ hh (by simp [rep,ri,sub]) (fun w' => ?_)
    have:=bounds_run (P:=P) true 0 0 0 0 w' h1 h2 (by omega) (by omega)
    rw [hmx']
    simp [Instr.sliceAt,Instr.slice,run_underlying hd,this,sizeOf,typeInfo,hi']
   ·refine QV.pure _ _ hh (cut_lst hr h5 h3 h4 (show b≤cap by omega)) (fun w' => ?_)
    have:=bounds_run (P:=P) true es.length cap a b w' h1 h2 (by omega) h4
    rw [hmx']
    simp [Instr.sliceAt,Instr.slice,run_underlying hd,this,sizeOf,typeInfo,hi']
    split <;> rfl
  ·rename_i e bl off len
   simp only [onSome_iff,onRows_iff] at hh
   obtain ⟨inf,hi', s,p,es,hb,hh⟩:=hh
   simp only [guardB_iff] at hh
   obtain ⟨hs,hh⟩:=hh
   have hs:=beq_eq hs
   subst hs
   obtain ⟨b,hh,h1⟩:=bnd hh
   obtain ⟨a,hh,h2⟩:=bnd hh
   simp only [need_iff] at hh
   obtain ⟨h3,h4,hh⟩:=hh
   have hx0:=hx
   simp only [rep] at hx
   by_cases hph:ν.ph bl=true
   ·obtain ⟨rfl,rfl,rfl⟩:=hx.1.2 hph
    simp only [Nat.le_zero_eq] at h3
    subst h3
    have:a=0:=by omega
    subst this
    refine QV.pure (.slice none 0 0) _ hh hx0 (fun w' => ?_)
    have:=bounds_run (P:=P) true 0 0 0 0 w' h1 h2 (by omega) (by omega)
    rw [hmx']
    simp [Instr.sliceAt,Instr.slice,run_underlying hd,this,sizeOf,typeInfo,hi']
   have hph:ν.ph bl=false:=by simpa using hph
   obtain ⟨⟨r,s', n'⟩,hat⟩:=hk.domP bl _ hb hph
   obtain ⟨g1,cap,g2,⟨o', ho', rfl⟩,c,el,fr,g3,g4⟩:=hx.2 r s' n' hat
   obtain ⟨rfl,_⟩:=hk.blkR hb hat
   obtain ⟨v,hv,hrv⟩:=cut_sl (F:=F) (cap:=cap) (m:=cap) ho' hx.1.1 hph hat g1 g3 g4 h3 h4 (by omega) (Nat.le_refl _) hh
   refine QV.pure _ _ hv hrv (fun w' => ?_)
   have:=bounds_run (P:=P) true len cap a b w' h1 h2 (by omega) h4
   rw [hmx']
   simp [Instr.sliceAt,Instr.slice,run_underlying hd,this,sizeOf,typeInfo,hi']
   split <;> rfl
  ·rename_i e
   simp only [onSome_iff] at hh
   obtain ⟨inf,hi', hh⟩:=hh
   obtain ⟨b,hh,h1⟩:=bnd hh
   obtain ⟨a,hh,h2⟩:=bnd hh
   simp only [need_iff] at hh
   obtain ⟨rfl,rfl,hh⟩:=hh
   simp only [rep] at hx; subst hx
   refine QV.raw hh (fun w' => ?_)
   have:=bounds_run (P:=P) true 0 0 0 0 w' h1 h2 (by omega) (by omega)
   rw [hmx']
   simp [Instr.sliceAt,Instr.slice,run_underlying hd,this,sizeOf,typeInfo,hi']
  ·rename_i n e bl i off
   simp only [onSome_iff,guardB_iff] at hh
   obtain ⟨inf,hi', hbl,hh⟩:=hh
   obtain ⟨b,hh,h1⟩:=bnd hh
   obtain ⟨a,hh,h2⟩:=bnd hh
   simp only [need_iff] at hh
   obtain ⟨h3,h4,hh⟩:=hh
   obtain ⟨o,hbl⟩:=has_iff.1 hbl
   simp only [rep] at hx
   obtain ⟨⟨r,s', n'⟩,hat⟩:=hk.domP bl o hbl hx.1.2
   have hx' := hx.2 r s' n' hat
   subst hx'
   refine QV.pure (.slice (some ⟨r,i * s' + (off+a * inf.size),none⟩) (b - a) (n - a)) _ hh ?_ (fun w' => ?_)
   ·simp only [rep]
    refine ⟨hx.1,fun r' s'' n'' hat' => ?_⟩
    rw [hat] at hat'
    simp at hat'
    obtain ⟨rfl,rfl,rfl⟩:=hat'
    exact ⟨n - a,by omega,rfl⟩
   ·have:=bounds_run (P:=P) false n n a b w' h1 h2 (by omega) (by omega)
    rw [hmx']
    have hne : ¬ n=a:=by omega
    simp [Instr.sliceAt,run_underlying hd,this,sizeOf,typeInfo,hi', hne,add_lit,Instr.sureAddr,Nat.add_assoc]
  ·exact hh.elim
 ·rename_i kc c0 hmx
  have hmx' : mx.map ρ=some (.int kc c0):=by
   cases mx with
   | none=>simp at hmx
   | some o =>
    simp at hmx ⊢
    have:=hρ o
    rw [hmx] at this
    simpa [rep] using this
  simp only [onNat_iff,onSome_iff] at hh
  obtain ⟨c,rfl,d,hd,hh⟩:=hh
  split at hh
  ·exact hh.elim
  ·rename_i hiV hhi
   have bh : ∀ {K:Nat→Prop},wBound 0 (some hiV) K → ∃ n:Nat,K n ∧ ∃ kk,hi.map ρ=some (.int kk n):=by
    intro K hb
    rw [← hhi] at hb
    obtain ⟨n,h1,h2⟩:=bnd hb
    rcases h2 with ⟨h2,_⟩ | h2
    ·cases hi <;> simp at hhi h2
    ·exact ⟨n,h1,h2⟩
   split at hh
   ·rename_i e s es
    try simp only [onSome_iff] at hh
    obtain ⟨inf,hi', hh⟩:=hh
    obtain ⟨b,hh,kk,h1⟩:=bh hh
    obtain ⟨a,hh,h2⟩:=bnd hh
    simp only [need_iff,guardB_iff] at hh
    obtain ⟨h0,h3,h4,h5,hK⟩:=hh
    have h5:=emp_or' h5
    simp only [rep,ri] at hx
    rcases hx with ⟨rfl,rfl⟩ | ⟨A,cap,hcap,rfl,hr⟩
    ·simp only [List.length_nil,Nat.le_zero_eq] at h0
     subst h0
     subst h3
     have:a=0:=by omega
     subst this
     refine QV.pure (.slice none 0 0) _ hK (by simp [rep,ri,sub]) (fun w' => ?_)
     have:=bounds3_run (P:=P) (kk:=kk) (kc:=kc) true 0 0 0 0 0 w' h2 (by omega) (by omega) (by omega)
     rw [hmx', h1]
     simp at this
     simp [Instr.sliceAt,Instr.slice,run_underlying hd,this,sizeOf,typeInfo,hi']
    ·subst h3
     refine QV.pure _ _ hK (cut_lsx hr h5 (by omega) h4) (fun w' => ?_)
     have:=bounds3_run (P:=P) (kk:=kk) (kc:=kc) true es.length cap a b b w' h2 (by omega) (Nat.le_refl _) h4
     rw [hmx', h1]
     simp [Instr.sliceAt,Instr.slice,run_underlying hd,this,sizeOf,typeInfo,hi']
     split <;> rfl
   ·rename_i e bl off len
    simp only [onSome_iff,onRows_iff] at hh
    obtain ⟨inf,hi', s,p,es,hb,hh⟩:=hh
    simp only [guardB_iff] at hh
    obtain ⟨hs,hh⟩:=hh
    have hs:=beq_eq hs
    subst hs
    obtain ⟨b,hh,kk,h1⟩:=bh hh
    obtain ⟨a,hh,h2⟩:=bnd hh
    simp only [need_iff] at hh
    obtain ⟨h0,h3,h4,hh⟩:=hh
    have hx0:=hx
    simp only [rep] at hx
    by_cases hph:ν.ph bl=true
    ·obtain ⟨rfl,rfl,rfl⟩:=hx.1.2 hph
     simp only [Nat.le_zero_eq] at h0
     subst h0
     have:b=0:=by omega
     subst this
     have:a=0:=by omega
     subst this
     refine QV.pure (.slice none 0 0) _ hh hx0 (fun w' => ?_)
     have:=bounds3_run (P:=P) (kk:=kk) (kc:=kc) true 0 0 0 0 0 w' h2 (by omega) (by omega) (by omega)
     rw [hmx', h1]
     simp at this
     simp [Instr.sliceAt,Instr.slice,run_underlying hd,this,sizeOf,typeInfo,hi']
    have hph:ν.ph bl=false:=by simpa using hph
    obtain ⟨⟨r,s', n'⟩,hat⟩:=hk.domP bl _ hb hph
    obtain ⟨g1,cap,g2,⟨o', ho', rfl⟩,cc,el,fr,g3,g4⟩:=hx.2 r s' n' hat
    obtain ⟨rfl,_⟩:=hk.blkR hb hat
    obtain ⟨v,hv,hrv⟩:=cut_sl (F:=F) (cap:=cap) (m:=c) ho' hx.1.1 hph hat g1 g3 g4 (by omega) h4 h3 (by omega) hh
    refine QV.pure _ _ hv hrv (fun w' => ?_)
    have:=bounds3_run (P:=P) (kk:=kk) (kc:=kc) true len cap a b c w' h2 (by omega) h3 h4
    rw [hmx', h1]
    simp [Instr.sliceAt,Instr.slice,run_underlying hd,this,sizeOf,typeInfo,hi']
    split <;> rfl
   ·exact hh.elim
 ·exact hh.elim
end
end Go.Proofs.YtkkgicjioajimaaDoor.Clean
namespace Go.Proofs.YtkkgicjioajimaaDoor.Clean
set_option linter.unusedSimpArgs false
set_option linter.unusedVariables false
section
variable {F:Nat→Prop} {w:World} {ν:Nu} {h:Hp}
def EV (P:Program) (F:Nat→Prop) (ν:Nu) (w:World) (tch:Id→Bool) (c:Sem Value) (k:V→Hp→Prop):Prop :=
 ∃ x w' ν' v h', c.run P w = .ok x w' ∧ k v h' ∧ HeapOK ν' F h' w' ∧ rep F w' ν' v x∧Evo ν F w ν' F w' ∧
  ∀ b y,ν.at_ b=some y→tch b=false→w'.heap[y.1]? = w.heap[y.1]? ∧ ν'.at_ b=some y
def EVF (P:Program) (F:Nat→Prop) (ν:Nu) (w:World) (tch:Id→Bool) (c:Sem Value) (k:V→Hp→Prop):Prop :=
 ∃ F' x w' ν' v h', c.run P w = .ok x w' ∧ k v h' ∧ HeapOK ν' F' h' w' ∧ rep F' w' ν' v x∧Evo ν F w ν' F' w' ∧
  ∀ b y,ν.at_ b=some y→tch b=false→w'.heap[y.1]? = w.heap[y.1]? ∧ ν'.at_ b=some y
theorem EV.toF {P:Program} {tch:Id→Bool} {c:Sem Value} {k:V→Hp→Prop} (h:EV P F ν w tch c k):EVF P F ν w tch c k:=⟨F,h⟩
theorem rowsC_one {R:V→Value→Prop} {c:Array Value} {cs:List V} (hc:cellsC R c cs 0):rowsC R c cs.length [cs] 0:=by
 simp only [rowsC]; exact ⟨trivial,hc,trivial⟩
theorem cellsC_of_repL (hk:HeapOK ν F h w) {cs:List V} {xs:Array Value} (hr:repL F w ν cs xs.toList) (ho:allOne h cs=true):cellsC (rep F w ν) xs cs 0:=by
 rw [cellsC_iff]
 intro j v hj
 obtain ⟨x,h1,h2⟩:=repL_get hr j v hj
 refine ⟨x,by simpa using h1,rep_one hk h2 ?_,h2⟩
 simp only [allOne,List.all_eq_true] at ho
 exact ho v (List.mem_of_getElem? hj)
theorem newRow_run (P:Program) (e:TypeId) (c:Array Value) (w:World):(newRow e c).run P w = .ok ⟨w.heap.size,0,none⟩ { w with heap:=w.heap.push (.cells c e) }:=by
 simp [newRow]
theorem still_new (hk:HeapOK ν F h w) {c:Array Value} {el:TypeId} {s n:Nat} (b:Id) (y:Nat×Nat×Nat) (hb:ν.at_ b=some y) :
  ({ w with heap:=w.heap.push (.cells c el) }:World).heap[y.1]? = w.heap[y.1]? ∧ (ν.add w.heap.size s n).at_ b=some y:=by
 obtain ⟨r,s', n'⟩:=y
 have hlt:=hk.at_lt hb
 refine ⟨?_,?_⟩
 ·show (w.heap.push _)[r]? = _
  rw [Array.getElem?_push,if_neg (by omega)]
 ·simp only [Nu.add]
  rw [if_neg (Id.ne_new (ν.lt b _ hb))]
  exact hb
theorem e_newVar {P:Program} (hk:HeapOK ν F h w) {cs:List V} {x:Array Value} {t:TypeId} {tch:Id→Bool} {k:V→Hp→Prop} (hr:repL F w ν cs x.toList) (ho:allOne h cs=true)
  (hK:k (.ptr (.p h.nxt) 0 0) (h.add (.rows cs.length false [cs]))) {c:Sem Value} (hc:c.run P w = .ok (.pointer (some ⟨w.heap.size,0,none⟩)) { w with heap:=w.heap.push (.cells x t) }) :
  EV P F ν w tch c k:=by
 have hl:=repL_length hr
 have hn:=heap_new (w' := { w with heap:=w.heap.push (.cells x t) }) hk false cs.length [cs] x t rfl (by simp at hl ⊢; omega) (rowsC_one (cellsC_of_repL hk hr ho))
 refine ⟨_,_,_,_,_,hc,hK,hn.1,?_,hn.2,fun b y hb _=>still_new hk b y hb⟩
 simp only [rep]
 refine ⟨⟨by simp only [Nu.add,hk.nxt]; exact Id.lt_new _ _,by simp [Nu.add,hk.nxt]⟩,fun r s n hat=>?_⟩
 simp only [Nu.add,hk.nxt,if_true] at hat
 simp at hat
 obtain ⟨rfl,rfl,rfl⟩:=hat
 simp
theorem e_box {P:Program} (hk:HeapOK ν F h w) {v:V} {x:Value} {t:TypeId} {tch:Id→Bool} {k:V→Hp→Prop} (hr:rep F w ν v x)
  (hh:onSome v.cells fun cs=>guardB (allOne h cs) (k (.ptr (.p h.nxt) 0 0) (h.add (.rows cs.length false [cs])))):EV P F ν w tch (Instr.box t x) k:=by
 simp only [onSome_iff,guardB_iff] at hh
 obtain ⟨cs,hcs,ho,hK⟩:=hh
 exact e_newVar hk (t:=t) (rep_cells hr hcs hk ho) ho hK (by simp [Instr.box,newVar,newRow_run])
theorem e_alloc {P:Program} (hk:HeapOK ν F h w) {t:TypeId} {tch:Id→Bool} {k:V→Hp→Prop}
  (hh:onSome (P.info? t) fun inf=>onSome (zeroRow inf) fun cs=>guardB (allOne h cs) (k (.ptr (.p h.nxt) 0 0) (h.add (.rows cs.length false [cs])))):EV P F ν w tch (Instr.alloc t true (.tuple #[])) k:=by
 simp only [onSome_iff,guardB_iff,zeroRow,Option.bind_eq_some_iff] at hh
 obtain ⟨inf,hi,cs,⟨z,hz,hcs⟩,ho,hK⟩:=hh
 refine e_newVar hk (t:=t) (x:=z.cells) (riL_repL _ _ (ofValue_cells hcs ho).1) ho hK ?_
 simp [Instr.alloc,zeroValue,typeInfo,hi,hz,newVar,newRow_run]
theorem e_store {P:Program} (hk:HeapOK ν F h w) {t:TypeId} {x v:V} {x' v' : Value} {tch:Id→Bool} {k:Hp→Prop} (hx:rep F w ν x x') (hv:rep F w ν v v')
  (ht : ∀ b i off,x = .ptr b i off → ∀ b', tch b' = false→b' ≠ b) (hh:wStore P h t x v k) :
  ∃ w' h', (Instr.storeAt t x' v').run P w = .ok () w' ∧ k h' ∧ HeapOK ν F h' w' ∧ Evo ν F w ν F w' ∧ ∀ b y,ν.at_ b=some y→tch b=false→w'.heap[y.1]? = w.heap[y.1]? := by
 unfold wStore at hh
 simp only [forceIf_eq] at hh
 split at hh
 ·rename_i b i off
  rw [onRows_iff] at hh
  obtain ⟨s,p,es,hb,hh⟩:=hh
  simp only [onSome_iff,guardB_iff,Bool.and_eq_true] at hh
  obtain ⟨row,hrow,cs,hcs,inf,hi,hpo,hl,ho,hle,hK⟩:=hh
  have hl:=beq_eq hl
  have hle:=Nat.le_of_ble_eq_true hle
  simp only [rep] at hx
  obtain ⟨⟨r,s', n⟩,hat⟩:=hk.domP b _ hb hx.1.2
  obtain ⟨rfl,g2,c,el,g3,g4,g5⟩:=hk.blkR hb hat
  have hx' := hx.2 r _ n hat
  subst hx'
  have hcells:=rep_cells hv hcs hk ho
  have hvl:v'.cells.size=cs.length:=by have:=repL_length hcells; simpa using this
  rw [rowsC_iff] at g5
  obtain ⟨hrl,hrc⟩:=g5 i row hrow
  have hi_lt:i<es.length:=(List.getElem?_eq_some_iff.1 hrow).1
  have hseg:(i+1) * s≤es.length * s:=Nat.mul_le_mul_right _ hi_lt
  rw [Nat.add_mul,Nat.one_mul,g2] at hseg
  have hbound:i * s+off+0+v'.cells.toList.length≤c.size:=by simp [hvl]; omega
  have hone : ∀ u∈v'.cells.toList,u.oneCell' = true:=by
   intro u hu
   obtain ⟨j,hj⟩:=List.mem_iff_getElem?.1 hu
   have hjl:j<cs.length:=by have:=(List.getElem?_eq_some_iff.1 hj).1; simp [hvl] at this; exact this
   obtain ⟨x,q1,q2⟩:=repL_get hcells j cs[j] (List.getElem?_eq_getElem hjl)
   rw [hj] at q1
   simp at q1
   subst q1
   refine rep_one hk q2 ?_
   simp only [allOne,List.all_eq_true] at ho
   exact ho _ (List.getElem_mem hjl)
  have hrun:=run_storeCells_at (P:=P) r (i * s+off) el v'.cells.toList 0 c w g3 hbound hone
  simp only [Nat.add_zero] at hrun hbound
  let c' : Array Value:=(c.toList.take (i * s+off)++v'.cells.toList++c.toList.drop (i * s+off+v'.cells.toList.length)).toArray
  have hc'get : ∀ q,c'[q]? = if q<i * s+off then c[q]? else if q<i * s+off+cs.length then v'.cells[q - (i * s+off)]? else c[q]? := by
   intro q
   have:=splice c.toList v'.cells.toList (i * s+off) q (by simpa using hbound)
   simp only [c', List.getElem?_toArray,this]
   simp [hvl]
  have hc'size:c'.size=c.size:=by
   simp only [c', List.size_toArray,List.length_append,List.length_take,List.length_drop,Array.length_toList]
   simp at hbound
   omega
  have hset:=heap_set (w' := w.setRow r c') hk hb (p:=p&&closedL cs) (es:=es) (es' := es.set i (row.take off++cs++row.drop (off+cs.length))) (c:=c) (c' := c') (el:=el) (b0:=b) (r0:=r) (s0:=_) hpo (by rw [g2]; exact hat)
   (by simp) g3 (setRow_heap w r c c' el (0,0) g3) hc'size (fun q hq=>setRow_other w r q c' hq) (setRow_size w r c') rfl rfl rfl (by rw [g2]; exact g4) (by
    rw [rowsC_iff]
    intro i' r' hr'
    rw [List.getElem?_set] at hr'
    by_cases hii:i=i'
    ·subst hii
     simp [hi_lt] at hr'
     subst hr'
     have hsp : ∀ j,(row.take off++cs++row.drop (off+cs.length))[j]? = if j<off then row[j]? else if j<off+cs.length then cs[j - off]? else row[j]? := fun j=>splice row cs off j hle
     refine ⟨?_,fun j u hj=>?_⟩
     ·simp only [List.length_append,List.length_take,List.length_drop]; omega
     ·have hj' := hsp j
      simp only [List.append_assoc] at hj'
      rw [hj'] at hj
      rw [Nat.zero_add,hc'get]
      by_cases h1:j<off
      ·rw [if_pos h1] at hj
       rw [if_pos (by omega)]
       obtain ⟨z,z1,z2,z3⟩:=hrc j u hj
       exact ⟨z,by simpa using z1,z2,repO_and z3⟩
      ·rw [if_neg h1] at hj
       by_cases h2:j<off+cs.length
       ·rw [if_pos h2] at hj
        rw [if_neg (by omega),if_pos (by omega)]
        obtain ⟨z,z1,z2⟩:=repL_get hcells (j - off) u hj
        refine ⟨z,by rw [show i * s+j - (i * s+off)=j - off by omega]; simpa using z1,rep_one hk z2 (by simp only [allOne,List.all_eq_true] at ho; exact ho _ (List.mem_of_getElem? hj)),?_⟩
        refine repO_of z2 (fun hp=>?_)
        simp only [Bool.and_eq_true] at hp
        have hmem : ∀ (l:List V),closedL l=true → ∀ u∈l,u.closed=true:=by
         intro l; induction l with
         | nil=>simp
         | cons a l ih=>intro hcl u hu; simp only [closedL,Bool.and_eq_true] at hcl; simp at hu; rcases hu with rfl | hu; exact hcl.1; exact ih hcl.2 u hu
        exact hmem cs hp.2 u (List.mem_of_getElem? hj)
       ·rw [if_neg h2] at hj
        rw [if_neg (by omega),if_neg (by omega)]
        obtain ⟨z,z1,z2,z3⟩:=hrc j u hj
        exact ⟨z,by simpa using z1,z2,repO_and z3⟩
    ·rw [if_neg hii] at hr'
     obtain ⟨k1,k2⟩:=g5 i' r' hr'
     refine ⟨k1,fun j u hj=>?_⟩
     obtain ⟨z,z1,z2,z3⟩:=k2 j u hj
     refine ⟨z,?_,z2,repO_and z3⟩
     have hjs:j<s:=by have:=(List.getElem?_eq_some_iff.1 hj).1; omega
     rw [hc'get]
     rcases Nat.lt_or_gt_of_ne hii with hlt | hgt
     ·have:=Nat.mul_le_mul_right s (show i+1≤i' from hlt)
      rw [Nat.add_mul,Nat.one_mul] at this
      rw [if_neg (by omega),if_neg (by omega)]; exact z1
     ·have:=Nat.mul_le_mul_right s (show i' + 1≤i from hgt)
      rw [Nat.add_mul,Nat.one_mul] at this
      rw [if_pos (by omega)]; exact z1)
  refine ⟨_,_,?_,hK,hset.1,hset.2,fun b' y hb' htc=>?_⟩
  ·simp only [Instr.storeAt,Instr.sureAddr,storeVar,sizeOf,typeInfo]
   simp [hi,hvl,hl]
   simpa [c'] using hrun
  ·refine setRow_other w r _ c' (fun heq=>ht b i off rfl b' htc ?_)
   obtain ⟨r', s', n'⟩:=y
   exact hk.inj b' b r' s' n' s n hb' (by simp at heq; rw [heq]; exact hat)
 ·exact hh.elim
end
end Go.Proofs.YtkkgicjioajimaaDoor.Clean
