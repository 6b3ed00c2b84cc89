/- A part of the proof. -/
import Derived.Laws.IdiomRangeMap
import Derived.OrdersIn
import Derived.Scope
import Derived.Laws.Externs
import Derived.KernelRfl
import Derived.Test.YtkkgicjioajimaaDoorXA7G0
import Derived.Test.YtkkgicjioajimaaDoorXA7G3
namespace Go.Proofs.YtkkgicjioajimaaDoor.Clean
set_option linter.unusedSimpArgs false
set_option linter.unusedVariables false
section
variable {F:Nat→Prop} {w:World} {ν:Nu} {h:Hp}
theorem keyC_sound {P:Program} (em:Bool) : ∀ (n:Nat) (t:TypeId) (x:V),keyC P n t x=true → ∀ {x' : Value},rep F w ν x x' → ∀ d,n≤d → ∀ w' : World,(Instr.checkKey em d t x').run P w' = .ok () w'
 | 0,t,x,h,_,_,_,_,_=>by simp [keyC] at h
 | n+1,t,x,h,x', hx,d,hd,w' => by
  obtain ⟨d,rfl⟩ : ∃ d', d=d' + 1:=⟨d - 1,by omega⟩
  unfold keyC at h
  split at h
  ·rename_i kk hu
   rw [Instr.checkKey]
   simp only [Sem.run_bind,run_underlying hu,Result.andThen_ok]
   rfl
  ·rename_i hu
   rw [Instr.checkKey]
   simp only [Sem.run_bind,run_underlying hu,Result.andThen_ok]
   rfl
  ·rename_i hu
   rw [Instr.checkKey]
   simp only [Sem.run_bind,run_underlying hu,Result.andThen_ok]
   rfl
  ·rename_i fs hu
   split at h
   ·rename_i xs
    simp only [rep] at hx
    obtain ⟨vx,rfl,hlx⟩:=hx
    rw [Instr.checkKey]
    simp only [Sem.run_bind,run_underlying hu,Result.andThen_ok]
    rw [← Array.forIn_toList]
    generalize fs.toList=L at h
    induction L with
    | nil=>simp
    | cons f L ih =>
     simp only [List.all_cons,Bool.and_eq_true] at h
     obtain ⟨h1,h2⟩:=h
     split at h1
     ·rename_i v hv
      obtain ⟨y,ry,py⟩:=part_rep (P:=P) hlx hv
      have hc:=keyC_sound (P:=P) em n f.type v h1 ry d (by omega) w'
      simp only [List.forIn_cons,Sem.run_bind]
      by_cases hn : f.name = "_"
      ·simp only [hn,ne_eq,not_true_eq_false,if_false,Sem.run_pure,Result.andThen_ok]
       exact ih h2
      ·simp only [hn,ne_eq,not_false_eq_true,if_true,Sem.run_bind,py,Result.andThen_ok,hc,Sem.run_pure]
       exact ih h2
     ·cases h1
   ·cases h
  ·rename_i len e hu
   split at h
   ·rename_i xs i hi
    simp only [rep] at hx
    obtain ⟨vx,rfl,hlx⟩:=hx
    rw [Instr.checkKey]
    simp only [Sem.run_bind,run_underlying hu,Result.andThen_ok]
    simp only [Std.Legacy.Range.forIn_eq_forIn_range', Std.Legacy.Range.size,Nat.sub_zero,Nat.add_one_sub_one,Nat.div_one]
    rw [List.range_eq_range'] at h
    generalize List.range' 0 len=is at h
    have hsz:P.cellsOf e=i.size:=by simp [Program.cellsOf,hi]
    induction is with
    | nil=>simp
    | cons j is ih =>
     simp only [List.all_cons,Bool.and_eq_true] at h
     obtain ⟨h1,h2⟩:=h
     split at h1
     ·rename_i v hv
      obtain ⟨y,ry,py⟩:=part_rep (P:=P) hlx hv
      have hc:=keyC_sound (P:=P) em n e v h1 ry d (by omega) w'
      simp only [List.forIn_cons,Sem.run_bind,run_sizeOf w' hi,hsz,Result.andThen_ok,py,hc,Sem.run_pure]
      exact ih h2
     ·cases h1
   ·cases h
  ·cases h
theorem onFind_iff {o:Option (Option (Nat×V×V))} {k:Nat→V→V→Prop} {n:Prop}:onFind o k n↔(∃ i k' v,o=some (some (i,k', v))∧k i k' v)∨(o=some none∧n):=by
 unfold onFind
 split
 ·rename_i i k' v
  constructor
  ·intro hk; exact .inl ⟨i,k', v,rfl,hk⟩
  ·rintro (⟨i', k'', v', he,hk⟩ | ⟨he,_⟩)
   ·simp at he; obtain ⟨rfl,rfl,rfl⟩:=he; exact hk
   ·simp at he
 ·simp
 ·simp
theorem findK_at {P:Program} {kt:TypeId} {k:V} : ∀ (es:List (V×V)) (i:Nat) {j:Nat} {k' v:V},findK P kt k es i=some (some (j,k', v))→i≤j∧es[j - i]? = some (k', v)
 | [],i,j,k', v,h=>by simp [findK] at h
 | (a,b)::r,i,j,k', v,h=>by
  simp only [findK,Option.bind_eq_some_iff] at h
  obtain ⟨t,_,h⟩:=h
  cases t with
  | true=>simp at h; obtain ⟨rfl,rfl,rfl⟩:=h; simp
  | false =>
   simp only [cond_false] at h
   obtain ⟨h1,h2⟩:=findK_at r (i+1) h
   refine ⟨by omega,?_⟩
   rw [show j - i=(j - (i+1))+1 by omega]
   simpa using h2
theorem sameNow_eq {P:Program} {kt:TypeId} {d:TypeDesc} (hd:P.underlying kt=some d) {n:Nat} {x y:V} {b:Bool} (he:eqC P n kt x y=some b) {x' y' : Value} (hx:rep F w ν x x') (hy:rep F w ν y y') {c:Bool} (hs:Instr.sameNow d x' y' = some c):c=b:=by
 cases n with
 | zero=>simp [eqC] at he
 | succ n =>
  unfold eqC at he
  rw [hd] at he
  cases d <;> simp only at he
  case int kk =>
   split at he
   ·simp only [rep] at hx hy
    subst hx; subst hy
    simp only [Instr.sameNow] at hs
    split at hs
    ·rename_i hkk
     subst hkk
     simp at hs he
     rw [← hs,← he]
    ·cases hs
   ·cases he
  case bool =>
   split at he
   ·simp only [rep] at hx hy
    subst hx; subst hy
    simp only [Instr.sameNow] at hs
    simp at hs he
    rw [← hs,← he]
   ·cases he
  case string =>
   split at he
   ·simp only [rep] at hx hy
    subst hx; subst hy
    simp only [Instr.sameNow,Option.some.injEq] at hs he
    rw [← hs,← he]
    rw [← ByteArray.toList_eq,← ByteArray.toList_eq]
    exact beq_toListBytes _ _
   ·cases he
  all_goals first | (simp [Instr.sameNow] at hs; done) | cases he
def foundAs (F:Nat→Prop) (w:World) (ν:Nu) (r:Option (Nat×V×V)) (r' : Option (Nat×Value)):Prop:=match r with
 | none=>r' = none
 | some (j,_,v) => ∃ x,r' = some (j,x)∧rep F w ν v x
theorem findK_sound {P:Program} {kt:TypeId} {k:V} {key:Value} (hkey:rep F w ν k key) {d:TypeDesc} (hd:P.underlying kt=some d) :
  ∀ (es:List (V×V)) (l:List MapEntry) (i:Nat) {r:Option (Nat×V×V)},findK P kt k es i=some r→l.length=es.length→(∀ (j:Nat) (kv:V×V),es[j]? = some kv → ∃ e:MapEntry,l[j]? = some e∧rep F w ν kv.1 e.key∧rep F w ν kv.2 e.val) →
  ∃ r' : Option (Nat×Value),(∀ w', (Instr.findAsking kt key l i).run P w' = .ok r' w')∧(∀ q,Instr.findNow d key l i=some q→q=r') ∧
   foundAs F w ν r r'
 | [],[],i,r,hf,_,_=>by
  simp only [findK,Option.some.injEq] at hf
  subst hf
  exact ⟨none,fun w' => by simp [Instr.findAsking],fun q hq=>by simp [Instr.findNow] at hq; exact hq.symm,rfl⟩
 | [],_::_,i,r,hf,hl,_=>by simp at hl
 | _::_,[],i,r,hf,hl,_=>by simp at hl
 | (k', v)::es,e::l,i,r,hf,hl,hall=>by
  simp only [findK,Option.bind_eq_some_iff] at hf
  obtain ⟨b,hb,hf⟩:=hf
  obtain ⟨e0,h0,r1,r2⟩:=hall 0 (k', v) rfl
  simp at h0
  subst h0
  have he : ∀ w' : World,(Op.equal kt key e.key).run P w' = .ok b w' := fun w' => eqC_sound 8 kt k k' b hb hkey r1 10000 (by omega) w'
  have hnow : ∀ c,Instr.sameNow d key e.key=some c→c=b:=fun c hc=>sameNow_eq hd hb hkey r1 hc
  cases b with
  | true =>
   simp only [cond_true,Option.some.injEq] at hf
   subst hf
   refine ⟨some (i,e.val),fun w' => by simp [Instr.findAsking,he],fun q hq=>?_,_,rfl,r2⟩
   simp only [Instr.findNow] at hq
   split at hq
   ·simp at hq; exact hq.symm
   ·rename_i hc; have:=hnow _ hc; cases this
   ·cases hq
  | false =>
   simp only [cond_false] at hf
   obtain ⟨r', g1,g2,g3⟩:=findK_sound hkey hd es l (i+1) hf (by simpa using hl) (fun j kv hj=>by simpa using hall (j+1) kv (by simpa using hj))
   refine ⟨r', fun w' => by simp [Instr.findAsking,he,g1],fun q hq=>?_,g3⟩
   simp only [Instr.findNow] at hq
   split at hq
   ·rename_i hc; have:=hnow _ hc; cases this
   ·exact g2 q hq
   ·cases hq
theorem findKey_sound {P:Program} {kt:TypeId} {k:V} {key:Value} (hkey:rep F w ν k key) {d:TypeDesc} (hd:P.underlying kt=some d) {es:List (V×V)} {ents:Array MapEntry} (he:entsOK (rep F w ν) es ents) {r:Option (Nat×V×V)} (hf:findK P kt k es 0=some r) :
  ∃ r' : Option (Nat×Value),(∀ w', (Instr.findKey kt key ents.toList).run P w' = .ok r' w') ∧
   foundAs F w ν r r' := by
 obtain ⟨r', g1,g2,g3⟩:=findK_sound (P:=P) hkey hd es ents.toList 0 hf (by simpa using he.1) (fun j kv hj=>by
  obtain ⟨e,h1,_,h2,h3⟩:=he.2 j kv hj
  exact ⟨e,by simpa using h1,h2,h3⟩)
 refine ⟨r', fun w' => ?_,g3⟩
 unfold Instr.findKey
 simp only [Sem.run_bind,run_underlying hd,Result.andThen_ok]
 cases hn:Instr.findNow d key ents.toList 0 with
 | none=>exact g1 w'
 | some q=>rw [g2 q hn]; rfl
theorem zeroV_sound {P:Program} {t:TypeId} {z:V} (hz:zeroV P t=some z) : ∃ x,rep F w ν z x ∧ ∀ w', (zeroValue t).run P w' = .ok x w' := by
 unfold zeroV at hz
 rw [Option.bind_eq_some_iff] at hz
 obtain ⟨i,hi,hz⟩:=hz
 rw [Option.map_eq_some_iff] at hz
 obtain ⟨x,hx,rfl⟩:=hz
 exact ⟨x,rep_ofValue x,fun w' => by simp [zeroValue,typeInfo,hi,hx]⟩
theorem q_lookup {P:Program} {t:TypeId} {x i:V} {x' i' : Value} {ok:Bool} {k:V→Prop} (hk:HeapOK ν F h w) (hx:rep F w ν x x') (hi:rep F w ν i i') (hh:wLookup P h t x i ok k) :
  QV P F ν w (mapOf x) (Instr.lookup t x' i' ok) k:=by
 unfold wLookup at hh
 rw [onSome_iff] at hh
 obtain ⟨d,hd,hh⟩:=hh
 split at hh
 ·rename_i kt et
  simp only [guardB_iff,onSome_iff] at hh
  obtain ⟨hkc,z,hz,hh⟩:=hh
  obtain ⟨zx,hzr,hzrun⟩:=zeroV_sound (F:=F) (w:=w) (ν:=ν) hz
  have hcheck:=fun em w' => keyC_sound (P:=P) em 8 kt i hkc hi 10000 (by omega) w'
  have two : ∀ (v:V) (y:Value) (b:Bool),rep F w ν v y→rep F w ν (bif ok then .tup [v,boolV b] else v) (if ok then .tuple #[y,.bool b] else y):=fun v y b hv=>by
   cases ok with
   | false=>exact hv
   | true =>
    simp only [cond_true,if_true,rep,boolV]
    exact ⟨_,rfl,by simp only [repL,rep]; exact ⟨_,_,rfl,hv,_,_,rfl,rfl,rfl⟩⟩
  rw [onMapF_iff] at hh
  have finish : ∀ (es:List (V×V)) (ents:Array MapEntry),entsOK (rep F w ν) es ents →
    onFind (findK P kt i es 0) (fun _ _ v=>typedS P false et v fun v=>k (bif ok then .tup [v,boolV true] else v)) (k (bif ok then .tup [z,boolV false] else z)) →
    ∃ y v,k v∧rep F w ν v y ∧ ∀ w', ((do
      Instr.checkKey ents.isEmpty 10000 kt i'
      let (v,isOk) ← match ← Instr.findKey kt i' ents.toList with
       | some (_,v)=>pure (v,true)
       | none=>pure (← zeroValue et,false)
      pure (if ok then Value.tuple #[v,.bool isOk] else v)):Sem Value).run P w' = .ok y w' := by
   intro es ents he hf
   obtain ⟨dk,hdk⟩ : ∃ dk,P.underlying kt=some dk:=by
    unfold keyC at hkc
    cases hu:P.underlying kt with
    | none=>simp [hu] at hkc
    | some dk=>exact ⟨dk,rfl⟩
   rw [onFind_iff] at hf
   rcases hf with ⟨j,k', v,hf,hK⟩ | ⟨hf,hK⟩
   ·obtain ⟨r', g1,g2⟩:=findKey_sound (P:=P) hi hdk he hf
    simp only [foundAs] at g2
    obtain ⟨y,rfl,hy⟩:=g2
    obtain ⟨v', hK,hv'⟩:=typedS_rep hK
    refine ⟨_,_,hK,two _ _ true (hv' hy),fun w' => ?_⟩
    simp [Sem.run_bind,hcheck,g1,Result.andThen_ok]
   ·obtain ⟨r', g1,g2⟩:=findKey_sound (P:=P) hi hdk he hf
    simp only [foundAs] at g2
    subst g2
    refine ⟨_,_,hK,two _ _ false hzr,fun w' => ?_⟩
    simp [Sem.run_bind,hcheck,g1,hzrun,Result.andThen_ok]
  rcases hh with ⟨es,rfl,hh⟩ | ⟨b,es,rfl,hb,hh⟩ | ⟨rfl,hh⟩
  ·simp only [rep] at hx
   obtain ⟨r,ents,rfl,hF,hw,he⟩:=fmp_at hx
   obtain ⟨y,v,h1,h2,h3⟩:=finish es ents (entsOK_mono he ri_rep) hh
   refine ⟨y,v,h1,h2,fun w' ha=>?_⟩
   have hw' : w'.heap[r]? = some (.map ents es.length):=by rw [ha.1 r hF]; exact hw
   rw [← h3 w']
   simp [Instr.lookup,run_underlying hd,run_getMap hw']
   rfl
  ·obtain ⟨r,s,n,ents,hat,hw,he⟩:=hk.blkM hb
   simp only [rep] at hx
   have:=hx.2 r s n hat
   subst this
   obtain ⟨y,v,h1,h2,h3⟩:=finish es ents he hh
   refine ⟨y,v,h1,h2,fun w' ha=>?_⟩
   have hw' : w'.heap[r]? = some (.map ents es.length):=by rw [ha.2 _ r s n rfl hat]; exact hw
   rw [← h3 w']
   simp [Instr.lookup,run_underlying hd,run_getMap hw']
   rfl
  ·simp only [rep] at hx
   subst hx
   obtain ⟨y,v,h1,h2,h3⟩:=finish [] #[] (by simp [entsOK]) hh
   refine ⟨y,v,h1,h2,fun w' ha=>?_⟩
   rw [← h3 w']
   simp [Instr.lookup,run_underlying hd]
   rfl
 ·exact hh.elim
theorem sameR_sound {a b:V} (hs:sameR a b=true) {x y:Value} (hx:rep F w ν a x) (hy:rep F w ν b y) (n:Nat):Instr.sameBits n x y=true:=by
 unfold sameR at hs
 split at hs
 ·simp only [rep] at hx hy; subst hx; subst hy
  cases n <;> simpa [Instr.sameBits] using hs
 ·simp only [rep] at hx hy; subst hx; subst hy
  cases n <;> simpa [Instr.sameBits] using hs
 ·simp only [rep] at hx hy; subst hx; subst hy
  cases n <;> simpa [Instr.sameBits] using hs
 ·cases hs
theorem sameRs_sound : ∀ {as bs:List V},sameRs as bs=true → ∀ {xs ys:List Value},repL F w ν as xs→repL F w ν bs ys → ∀ n,xs.length=ys.length∧(xs.zip ys).all (fun (x,y)=>Instr.sameBits n x y)=true
 | [],[],_,xs,ys,hx,hy,n=>by simp only [repL] at hx hy; subst hx; subst hy; simp
 | a::as,b::bs,hs,xs,ys,hx,hy,n=>by
  simp only [sameRs,Bool.and_eq_true] at hs
  simp only [repL] at hx hy
  obtain ⟨x,xs,rfl,h1,h2⟩:=hx
  obtain ⟨y,ys,rfl,h3,h4⟩:=hy
  obtain ⟨g1,g2⟩:=sameRs_sound hs.2 h2 h4 n
  exact ⟨by simp [g1],by simp only [List.zip_cons_cons,List.all_cons,Bool.and_eq_true]; exact ⟨sameR_sound hs.1 h1 h3 n,g2⟩⟩
 | [],_::_,hs,_,_,_,_,_=>by simp [sameRs] at hs
 | _::_,[],hs,_,_,_,_,_=>by simp [sameRs] at hs
theorem sameC_sound {a b:V} (hs:sameC a b=true) {x y:Value} (hx:rep F w ν a x) (hy:rep F w ν b y) {P:Program} (w' : World):(Instr.keyThatStays x y).run P w' = .ok y w' := by
 have:Instr.sameBits 10000 x y=true:=by
  unfold sameC at hs
  split at hs
  ·simp only [rep] at hx hy
   obtain ⟨xs,rfl,h1⟩:=hx
   obtain ⟨ys,rfl,h2⟩:=hy
   obtain ⟨g1,g2⟩:=sameRs_sound hs h1 h2 9999
   show (xs.size==ys.size&&(xs.toList.zip ys.toList).all fun (x,y)=>Instr.sameBits 9999 x y)=true
   rw [Bool.and_eq_true]
   exact ⟨by simpa using g1,g2⟩
  ·exact sameR_sound hs hx hy 10000
 simp [Instr.keyThatStays,this]
theorem map_set {P:Program} {r:Nat} {ents ents' : Array MapEntry} {c c' : Nat} (hw:w.heap[r]? = some (.map ents c)) :
  ∃ w', (setObj r (.map ents' c')).run P w = .ok () w' ∧ w'.heap[r]? = some (.map ents' c')∧(∀ q,q≠r→w'.heap[q]? = w.heap[q]?)∧w'.heap.size=w.heap.size∧w'.os=w.os∧w'.tape=w.tape∧w'.output=w.output∧w.drawn≤w'.drawn:=by
 have hlt:=lt_of_some hw
 refine ⟨{ w with heap:=w.heap.setIfInBounds r (.map ents' c') },by simp [setObj,Sem.run,hw],?_,fun q hq=>?_,by simp,rfl,rfl,rfl,Nat.le_refl _⟩
 ·show (w.heap.setIfInBounds r _)[r]? = _
  simp [hlt]
 ·show (w.heap.setIfInBounds r _)[q]? = _
  rw [Array.getElem?_setIfInBounds_ne (by omega)]
theorem ents_push {R:V→Value→Prop} {es:List (V×V)} {ents:Array MapEntry} (he:entsOK R es ents) {k v:V} {x y:Value} (hx:R k x) (hy:R v y):entsOK R (es++[(k,v)]) (ents.push ⟨x,y,es.length⟩):=by
 refine ⟨by simp [he.1],fun i kv hi=>?_⟩
 by_cases hl:i<es.length
 ·rw [List.getElem?_append_left hl] at hi
  obtain ⟨e,h1,h2⟩:=he.2 i kv hi
  exact ⟨e,by rw [Array.getElem?_push,if_neg (by have:=he.1; omega)]; exact h1,h2⟩
 ·rw [List.getElem?_append_right (by omega)] at hi
  have h0:i - es.length=0:=by
   have:=(List.getElem?_eq_some_iff.1 hi).1
   simpa using this
  rw [h0] at hi
  simp at hi
  subst hi
  have:i=ents.size:=by have:=he.1; omega
  subst this
  exact ⟨⟨x,y,es.length⟩,by simp,by have:=he.1; simp; omega,hx,hy⟩
theorem ents_set {R:V→Value→Prop} {es:List (V×V)} {ents:Array MapEntry} (he:entsOK R es ents) {i:Nat} {k v:V} {f:MapEntry→MapEntry} (hb : ∀ e,(f e).born=e.born) (hi:i<es.length) (hx : ∀ e,ents[i]? = some e→R k (f e).key) (hy : ∀ e,ents[i]? = some e→R v (f e).val):entsOK R (es.set i (k,v)) (ents.modify i f):=by
 refine ⟨by simp [he.1],fun j kv hj=>?_⟩
 rw [List.getElem?_set] at hj
 rw [Array.getElem?_modify]
 by_cases hij:i=j
 ·subst hij
  rw [if_pos rfl] at hj ⊢
  rw [if_pos hi] at hj
  simp at hj
  subst hj
  obtain ⟨e,h1,h2,_⟩:=he.2 i es[i] (List.getElem?_eq_getElem hi)
  exact ⟨f e,by rw [h1]; rfl,by rw [hb,h2],hx e h1,hy e h1⟩
 ·rw [if_neg hij] at hj ⊢
  exact he.2 j kv hj
theorem key_dk {P:Program} {kt:TypeId} {k:V} (hkc:keyC P 8 kt k=true) : ∃ dk,P.underlying kt=some dk:=by
 unfold keyC at hkc
 cases hu:P.underlying kt with
 | none=>simp [hu] at hkc
 | some dk=>exact ⟨dk,rfl⟩
theorem e_mapUpdate {P:Program} (hk:HeapOK ν F h w) {t:TypeId} {x i v:V} {x' i' v' : Value} {tch:Id→Bool} {k:Hp→Prop} (hx:rep F w ν x x') (hi:rep F w ν i i') (hv:rep F w ν v v')
  (ht : ∀ b,x = .mp b → ∀ b', tch b' = false→b' ≠ b) (hh:wMapUpdate P h t x i v k) :
  ∃ w' h', (Instr.mapUpdate t x' i' v').run P w = .ok () w' ∧ k h' ∧ HeapOK ν F h' w' ∧ Evo ν F w ν F w' ∧ ∀ b y,ν.at_ b=some y→tch b=false→w'.heap[y.1]? = w.heap[y.1]? := by
 unfold wMapUpdate at hh
 rw [onSome_iff] at hh
 obtain ⟨d,hd,hh⟩:=hh
 split at hh
 ·rename_i kt et
  simp only [guardB_iff,onMapB_iff] at hh
  obtain ⟨hkc,b,es,rfl,hb,hh⟩:=hh
  obtain ⟨dk,hdk⟩:=key_dk hkc
  have hcheck:=fun em w' => keyC_sound (P:=P) em 8 kt i hkc hi 10000 (by omega) w'
  obtain ⟨r,s,n,ents,hat,hw,he⟩:=hk.blkM hb
  simp only [rep] at hx
  have:=hx.2 r s n hat
  subst this
  have still : ∀ w' : World,(∀ q,q≠r→w'.heap[q]? = w.heap[q]?) → ∀ b' y,ν.at_ b' = some y→tch b' = false→w'.heap[y.1]? = w.heap[y.1]? := fun w' hq b' y hy htc=>by
   obtain ⟨r', s', n'⟩:=y
   exact hq r' (fun heq=>ht _ rfl b' htc (hk.inj b' _ r s' n' s n (heq ▸ hy) hat))
  rw [onFind_iff] at hh
  rcases hh with ⟨j,k', v0,hf,hh⟩ | ⟨hf,hh⟩
  ·try simp only [guardB_iff] at hh
   obtain ⟨r', g1,g2⟩:=findKey_sound (P:=P) hi hdk he hf
   try simp only [foundAs] at g2
   obtain ⟨y,rfl,hy⟩:=g2
   obtain ⟨_,hjj⟩:=findK_at es 0 hf
   simp only [Nat.sub_zero] at hjj
   have hjl:=(List.getElem?_eq_some_iff.1 hjj).1
   obtain ⟨e,h1,h2,h3,h4⟩:=he.2 j _ hjj
   have hstay:=sameC_sound (P:=P) hh.1 h3 hi w
   obtain ⟨w', q1,q2,q3,q4,q5,q6,q7,q8⟩:=map_set (P:=P) (ents' := ents.modify j fun e=>{ e with key:=i', val:=v' }) (c' := es.length) hw
   have hset:=heap_setM (w' := w') (es' := es.set j (i,v)) hk hat hw (by simpa using q2) q3 q4 q5 q6 q7 (ents_set (f:=fun e=>{ e with key:=i', val:=v' }) he (fun _=>rfl) hjl (fun _ _=>hi) (fun _ _=>hv))
   refine ⟨w', _,?_,hh.2,hset.1,hset.2,still w' q3⟩
   simp [Instr.mapUpdate,run_underlying hd,run_getMap hw,hcheck,g1,h1,hstay,q1]
  ·obtain ⟨r', g1,g2⟩:=findKey_sound (P:=P) hi hdk he hf
   try simp only [foundAs] at g2
   subst g2
   obtain ⟨w', q1,q2,q3,q4,q5,q6,q7,q8⟩:=map_set (P:=P) (ents' := ents.push ⟨i', v', es.length⟩) (c' := es.length+1) hw
   have hset:=heap_setM (w' := w') (es' := es++[(i,v)]) hk hat hw (by simpa using q2) q3 q4 q5 q6 q7 (ents_push he hi hv)
   refine ⟨w', _,?_,hh,hset.1,hset.2,still w' q3⟩
   simp [Instr.mapUpdate,run_underlying hd,run_getMap hw,hcheck,g1,q1]
 ·exact hh.elim
theorem e_mapEntry {P:Program} (hk:HeapOK ν F h w) {t:TypeId} {x i:V} {x' i' : Value} {tch:Id→Bool} {k:V→Hp→Prop} (hx:rep F w ν x x') (hi:rep F w ν i i')
  (ht : ∀ b,x = .mp b → ∀ b', tch b' = false→b' ≠ b) (hh:wMapEntry P h t x i k):EV P F ν w tch (Instr.mapEntry t x' i') k:=by
 unfold wMapEntry at hh
 rw [onSome_iff] at hh
 obtain ⟨d,hd,hh⟩:=hh
 split at hh
 ·rename_i kt et
  simp only [guardB_iff,onSome_iff,onMapB_iff] at hh
  obtain ⟨hkc,z,hz,b,es,rfl,hb,hh⟩:=hh
  obtain ⟨zx,hzr,hzrun⟩:=zeroV_sound (F:=F) (w:=w) (ν:=ν) hz
  obtain ⟨dk,hdk⟩:=key_dk hkc
  have hcheck:=fun em w' => keyC_sound (P:=P) em 8 kt i hkc hi 10000 (by omega) w'
  obtain ⟨r,s,n,ents,hat,hw,he⟩:=hk.blkM hb
  simp only [rep] at hx
  have:=hx.2 r s n hat
  subst this
  have still : ∀ w' : World,(∀ q,q≠r→w'.heap[q]? = w.heap[q]?) → ∀ b' y,ν.at_ b' = some y→tch b' = false→w'.heap[y.1]? = w.heap[y.1]? ∧ ν.at_ b' = some y:=fun w' hq b' y hy htc=>by
   refine ⟨?_,hy⟩
   obtain ⟨r', s', n'⟩:=y
   exact hq r' (fun heq=>ht _ rfl b' htc (hk.inj b' _ r s' n' s n (heq ▸ hy) hat))
  have two : ∀ (F' : Nat→Prop) (w' : World) (v:V) (y:Value) (c:Nat),rep F' w' ν v y→rep F' w' ν (.tup [v,intV .i64 c]) (.tuple #[y,goInt c]):=fun F' w' v y c hv=>by
   simp only [rep,intV,goInt]
   exact ⟨_,rfl,by simp only [repL,rep]; exact ⟨_,_,rfl,hv,_,_,rfl,rfl,rfl⟩⟩
  rw [onFind_iff] at hh
  rcases hh with ⟨j,k', v0,hf,hh⟩ | ⟨hf,hh⟩
  ·try simp only [guardB_iff] at hh
   obtain ⟨r', g1,g2⟩:=findKey_sound (P:=P) hi hdk he hf
   try simp only [foundAs] at g2
   obtain ⟨y,rfl,hy⟩:=g2
   obtain ⟨_,hjj⟩:=findK_at es 0 hf
   simp only [Nat.sub_zero] at hjj
   have hjl:=(List.getElem?_eq_some_iff.1 hjj).1
   obtain ⟨e,h1,h2,h3,h4⟩:=he.2 j _ hjj
   have hstay:=sameC_sound (P:=P) hh.1 h3 hi w
   obtain ⟨v', hK,hv'⟩:=typedS_rep hh.2
   obtain ⟨w', q1,q2,q3,q4,q5,q6,q7,q8⟩:=map_set (P:=P) (ents' := ents.modify j fun e=>{ e with key:=i' }) (c' := es.length) hw
   have hset:=heap_setM (w' := w') (es' := es.set j (i,v')) hk hat hw (by simpa using q2) q3 q4 q5 q6 q7 (ents_set (f:=fun e=>{ e with key:=i' }) he (fun _=>rfl) hjl (fun _ _=>hi) (fun e0 h0=>by
    rw [h1] at h0; cases h0; exact hv' h4))
   refine ⟨.tuple #[y,goInt j],w', ν,_,_,?_,hK,hset.1,two _ _ _ _ _ (rep_evo hk hset.2 _ _ (hv' hy)),hset.2,still w' q3⟩
   simp [Instr.mapEntry,run_underlying hd,run_getMap hw,hcheck,g1,h1,hstay,q1,h2]
  ·obtain ⟨r', g1,g2⟩:=findKey_sound (P:=P) hi hdk he hf
   try simp only [foundAs] at g2
   subst g2
   obtain ⟨w', q1,q2,q3,q4,q5,q6,q7,q8⟩:=map_set (P:=P) (ents' := ents.push ⟨i', zx,es.length⟩) (c' := es.length+1) hw
   have hset:=heap_setM (w' := w') (es' := es++[(i,z)]) hk hat hw (by simpa using q2) q3 q4 q5 q6 q7 (ents_push he hi hzr)
   refine ⟨.tuple #[zx,goInt es.length],w', ν,_,_,?_,hh,hset.1,two _ _ _ _ _ (rep_evo hk hset.2 _ _ hzr),hset.2,still w' q3⟩
   simp [Instr.mapEntry,run_underlying hd,run_getMap hw,hcheck,g1,hzrun,q1]
 ·exact hh.elim
theorem e_entryStore {P:Program} (hk:HeapOK ν F h w) {t:TypeId} {x i v:V} {x' i' v' : Value} {tch:Id→Bool} {k:Hp→Prop} (hx:rep F w ν x x') (hi:rep F w ν i i') (hv:rep F w ν v v')
  (ht : ∀ b,x = .mp b → ∀ b', tch b' = false→b' ≠ b) (hh:wEntryStore h x i v k) :
  ∃ w' h', (Instr.entryStore t x' i' v').run P w = .ok () w' ∧ k h' ∧ HeapOK ν F h' w' ∧ Evo ν F w ν F w' ∧ ∀ b y,ν.at_ b=some y→tch b=false→w'.heap[y.1]? = w.heap[y.1]? := by
 unfold wEntryStore at hh
 split at hh
 ·rename_i kk m
  simp only [onNat_iff,onMapB_iff,onSome_iff] at hh
  obtain ⟨j,rfl,b,es,rfl,hb,kv,hkv,hh⟩:=hh
  obtain ⟨r,s,n,ents,hat,hw,he⟩:=hk.blkM hb
  simp only [rep] at hx hi
  have:=hx.2 r s n hat
  subst this
  subst hi
  have hjl:=(List.getElem?_eq_some_iff.1 hkv).1
  obtain ⟨e,h1,h2,h3,h4⟩:=he.2 j _ hkv
  have hfind:ents.findIdx? (fun e=>(e.born:Int)==(j:Int))=some j:=by
   rw [Array.findIdx?_eq_some_iff_getElem]
   have hjs:j<ents.size:=by rw [he.1]; exact hjl
   refine ⟨hjs,?_,fun q hq=>?_⟩
   ·have:=Array.getElem?_eq_getElem hjs
    rw [h1] at this
    simp at this
    rw [← this,h2]
    simp
   ·obtain ⟨e', g1,g2,_⟩:=he.2 q es[q] (List.getElem?_eq_getElem (by omega))
    have:=Array.getElem?_eq_getElem (xs:=ents) (i:=q) (by omega)
    rw [g1] at this
    simp at this
    rw [← this,g2]
    simp
    omega
  obtain ⟨w', q1,q2,q3,q4,q5,q6,q7,q8⟩:=map_set (P:=P) (ents' := ents.modify j fun e=>{ e with val:=v' }) (c' := es.length) hw
  have hset:=heap_setM (w' := w') (es' := es.set j (kv.1,v)) hk hat hw (by simpa using q2) q3 q4 q5 q6 q7 (ents_set (f:=fun e=>{ e with val:=v' }) he (fun _=>rfl) hjl (fun e0 h0=>by rw [h1] at h0; cases h0; exact h3) (fun _ _=>hv))
  refine ⟨w', _,?_,hh,hset.1,hset.2,fun b' y hy htc=>?_⟩
  ·simp [Instr.entryStore,run_getMap hw,asInt,asIntOf,hfind,q1]
  ·obtain ⟨r', s', n'⟩:=y
   exact q3 r' (fun heq=>ht _ rfl b' htc (hk.inj b' _ r s' n' s n (heq ▸ hy) hat))
 ·exact hh.elim
theorem e_makeMap {P:Program} (hk:HeapOK ν F h w) {t:TypeId} {r:Option V} {r' : Option Value} {tch:Id→Bool} {k:V→Hp→Prop} (hr : ∀ v,r=some v → ∃ x,r' = some x∧rep F w ν v x) (hn:r=none→r' = none) (hh:wMakeMap P h t r k):EV P F ν w tch (Instr.makeMap t r') k:=by
 have fin:k (.mp (.p h.nxt)) (h.add (.mp []))→(Instr.makeMap t r').run P w = .ok (.map (some w.heap.size)) { w with heap:=w.heap.push (.map #[] 0) }→EV P F ν w tch (Instr.makeMap t r') k:=fun hK hrun=>by
  have hm:=heap_newM (w' := { w with heap:=w.heap.push (.map #[] 0) }) hk rfl
  refine ⟨_,_,_,_,_,hrun,hK,hm.1,?_,hm.2,fun b y hb _=>⟨push_old rfl (hk.at_lt hb),Nu.add_old hb⟩⟩
  simp only [rep]
  refine ⟨by simp only [Nu.add,hk.nxt]; exact Id.lt_new _ _,fun r0 s n hat=>?_⟩
  simp only [Nu.add,hk.nxt,if_true] at hat
  simp at hat
  rw [hat.1]
 unfold wMakeMap at hh
 split at hh
 ·rw [hn rfl] at fin ⊢
  exact fin hh (by simp [Instr.makeMap])
 ·rename_i kk m
  obtain ⟨x,rfl,hx⟩:=hr _ rfl
  simp only [rep] at hx
  subst hx
  rw [onSome_iff] at hh
  obtain ⟨d,hd,hh⟩:=hh
  split at hh
  ·exact fin hh (by simp [Instr.makeMap,run_underlying hd,asInt,asIntOf])
  ·exact hh.elim
 ·exact hh.elim
theorem onIt_iff {h:Hp} {x:V} {k:Nat→V→Nat→List Nat→Prop}:onIt h x k ↔ ∃ c m n seen,x = .ptr (.p c) 0 0∧h.get (.p c)=some (.it m n seen)∧k c m n seen:=by
 constructor
 ·intro hk
  unfold onIt at hk
  split at hk
  ·rename_i b
   split at hk
   ·rename_i c
    split at hk
    ·rename_i m n seen hg
     exact ⟨c,m,n,seen,rfl,hg,hk⟩
    ·exact hk.elim
   ·exact hk.elim
  ·exact hk.elim
 ·rintro ⟨c,m,n,seen,rfl,hg,hk⟩
  have hg:getB h.bs c=some (.it m n seen):=hg
  simp only [onIt,hg]
  exact hk
theorem allIn_mem : ∀ {l:List Nat} {k:Nat→Prop},allIn l k → ∀ i∈l,k i
 | [],k,_,i,hi=>by cases hi
 | j::l,k,h,i,hi=>by
  rcases List.mem_cons.1 hi with rfl | hi
  ·exact h.1
  ·exact allIn_mem h.2 i hi
theorem leftN_mem {n:Nat} {seen:List Nat} {i:Nat}:i∈leftN n seen↔i<n∧i ∉ seen:=by
 simp only [leftN,List.mem_filter,List.mem_range,Bool.not_eq_true', List.any_eq_false]
 constructor
 ·rintro ⟨h1,h2⟩
  exact ⟨h1,fun hm=>h2 i hm (by simp)⟩
 ·rintro ⟨h1,h2⟩
  exact ⟨h1,fun x hx he=>h2 (by have:=Nat.eq_of_beq_eq_true he; rw [this]; exact hx)⟩
theorem it_at (hk:HeapOK ν F h w) {b:Id} {m:V} {n:Nat} {seen:List Nat} (hg:h.get b=some (.it m n seen)) : ∃ l s k mr,ν.at_ b=some (l,s,k)∧w.heap[l]? = some (.mapIter mr n seen.toArray n)∧rep F w ν m (.map mr):=by
 rcases hk.dom b _ hg with ⟨⟨l,s,k⟩,hat⟩ | ⟨_,_,_,h⟩
 ·obtain ⟨o,g1,g2⟩:=hk.blk b l s k hat
  rw [hg] at g1
  cases g1
  obtain ⟨mr,g3,g4⟩:=g2
  exact ⟨l,s,k,mr,hat,g3,g4⟩
 ·cases h
theorem get_putI (h:Hp) (b:Nat) (o:O) (j:Id):(h.put (.p b) o).get j=if j = .p b then some o else h.get j:=by
 cases j with
 | p j =>
  simp only [Hp.get,Hp.put,getB_cons,getB_delB,Id.p.injEq]
  by_cases hb:j=b
  ·simp [hb]
  ·rw [if_neg (by omega),if_neg hb,if_neg hb]
 | m B k=>simp [Hp.get,Hp.put]
theorem e_range {P:Program} (hk:HeapOK ν F h w) {t:TypeId} {x:V} {x' : Value} {tch:Id→Bool} {k:V→Hp→Prop} (hx:rep F w ν x x') (hh:wRange P h t x k):EV P F ν w tch (Instr.range t x') k:=by
 unfold wRange at hh
 rw [onSome_iff] at hh
 obtain ⟨d,hd,hh⟩:=hh
 split at hh
 case h_2=>exact hh.elim
 case h_1 kt et =>
 have fin : ∀ (n:Nat) (mr:Option Nat),x' = .map mr→k (.ptr (.p h.nxt) 0 0) (h.add (.it x n []))→(Instr.range t x').run P w = .ok (.pointer (some ⟨w.heap.size,0,none⟩)) (w.alloc (.mapIter mr n #[] n))→EV P F ν w tch (Instr.range t x') k:=by
  intro n mr hmr hK hrun
  have hm:=heap_newO (w' := w.alloc (.mapIter mr n #[] n)) hk 0 0 (.it x n []) _ rfl (fun e=>⟨mr,push_new rfl,rep_evo hk e _ _ (hmr ▸ hx)⟩)
  refine ⟨_,_,_,_,_,hrun,hK,hm.1,?_,hm.2,fun b y hb _=>⟨push_old rfl (hk.at_lt hb),Nu.add_old hb⟩⟩
  simp only [rep]
  refine ⟨⟨by simp only [Nu.add,hk.nxt]; exact Id.lt_new _ _,by simp [Nu.add,hk.nxt]⟩,fun r0 s n hat=>?_⟩
  simp only [Nu.add,hk.nxt,if_true] at hat
  simp at hat
  rw [hat.1]
  simp
 rcases onMap_iff.1 hh with ⟨b,es,rfl,hg,hK⟩ | ⟨rfl,hK⟩
 ·obtain ⟨r,s,n,ents,hat,hr,he⟩:=hk.blkM hg
  have hx' := hx
  simp only [rep] at hx'
  have:=hx'.2 r s n hat
  subst this
  exact fin es.length (some r) rfl hK (run_range_map w t kt et r ents es.length hd hr)
 ·have hx' := hx
  simp only [rep] at hx'
  subst hx'
  exact fin 0 none rfl hK (run_range_nilMap w t kt et hd)
theorem run_nextM {P:Program} (w:World) (ty:TypeId) (r bm n:Nat) (seen:Array Nat) (es:Array MapEntry) (hr:w.heap[r]? = some (.mapIter (some bm) n seen n)) (hb:w.heap[bm]? = some (.map es n)) (hold : ∀ x∈es.toList,x.born<n) :
  ((leftOf es seen).size=0∧(Instr.next (.pointer (some ⟨r,0,none⟩)) false ty).run P w = .ok (.tuple #[.bool false]) w) ∨
  ∃ e∈(leftOf es seen).toList, ∃ w1:World,w1.heap=w.heap∧w1.os=w.os∧w1.tape=w.tape∧w1.output=w.output∧w.drawn≤w1.drawn∧(Instr.next (.pointer (some ⟨r,0,none⟩)) false ty).run P w = .ok (.tuple #[.bool true,e.key,e.val]) { w1 with heap:=w1.heap.setIfInBounds r (.mapIter (some bm) n (seen.push e.born) n) }:=by
 simp only [Instr.next,getObj,Sem.run_bind,Sem.run,hr,hb,Result.andThen,next_test_false seen es n n hold (Nat.le_refl _),Bool.false_eq_true,if_false]
 unfold leftOf
 have hmem : ∀ x∈(Array.filter (fun e => !seen.contains e.born) es).toList,x.born<n:=fun x hx=>hold x (by simp at hx ⊢; exact hx.1)
 generalize Array.filter (fun e => !seen.contains e.born) es=L at hmem ⊢
 have e1:L.filter (fun x=>decide (x.born<n))=L:=Array.filter_eq_self.2 (fun x hx=>by simpa using hmem x (by simpa using hx))
 have e2:L.filter (fun x=>decide (x.born ≥ n)) = #[]:=by
  rw [Array.filter_eq_empty_iff]
  intro x hx
  have:=hmem x (by simpa using hx)
  simp
  omega
 simp only [e1,e2,Array.append_empty]
 by_cases h0:L.size=0
 ·left
  have:L = #[]:=Array.eq_empty_of_size_eq_zero h0
  subst this
  refine ⟨rfl,?_⟩
  simp [choose,Sem.run,Question.forced]
 ·right
  have hne:L.isEmpty=false:=by simp [Array.isEmpty,h0]
  simp only [hne,Bool.false_eq_true,if_false,Array.empty_append,Array.size_map]
  have hch : ∃ (j:Nat) (w1:World),j<L.size∧(w1.heap=w.heap∧w1.os=w.os∧w1.tape=w.tape∧w1.output=w.output∧w.drawn≤w1.drawn)∧(choose (Question.mapNext L.size)).run P w = .ok j w1:=by
   by_cases hf:L.size≤1
   ·exact ⟨0,w,by omega,⟨rfl,rfl,rfl,rfl,Nat.le_refl _⟩,by simp [choose,Sem.run,Question.forced,hf]⟩
   ·exact ⟨_,w.drew,Nat.mod_lt _ (by omega),⟨rfl,rfl,rfl,rfl,Nat.le_succ _⟩,by
     simp only [choose,Sem.run,Question.forced,decide_eq_true_eq,hf,if_false,Question.cut]
     rfl⟩
  obtain ⟨j,w1,hj,hal,hrun⟩:=hch
  refine ⟨L[j],by simp,w1,hal.1,hal.2.1,hal.2.2.1,hal.2.2.2.1,hal.2.2.2.2,?_⟩
  have hset : ∀ (o' : Obj),(setObj r o').run P w1 = .ok () { w1 with heap:=w1.heap.setIfInBounds r o' }:=fun o' => by
   simp only [setObj,Sem.run]
   rw [hal.1,hr]
  simp only [hrun,Array.getElem?_map,Array.getElem?_eq_getElem hj,Option.map_some,Sem.run_bind,hset,Result.andThen]
  rfl
theorem e_next {P:Program} (hk:HeapOK ν F h w) {ty:TypeId} {x:V} {x' : Value} {tch:Id→Bool} {k:V→Hp→Prop} (hx:rep F w ν x x') (ht : ∀ b i off,x = .ptr b i off → ∀ b', tch b' = false→b' ≠ b) (hh:wNext h x k):EV P F ν w tch (Instr.next x' false ty) k:=by
 unfold wNext at hh
 rw [onIt_iff] at hh
 obtain ⟨c,m,n,seen,rfl,hg,hh⟩:=hh
 obtain ⟨l,s,j,mr,hat,hl,hm⟩:=it_at hk hg
 simp only [rep] at hx
 have hx' := hx.2 l s j hat
 subst hx'
 have hp:(⟨l,0 * s+0,none⟩:Addr)=⟨l,0,none⟩:=by simp
 rw [hp]
 rcases onMap_iff.1 hh with ⟨b,es,rfl,hgm,hK⟩ | ⟨rfl,hK⟩
 ·obtain ⟨r,s1,n1,ents,hat1,hr,he⟩:=hk.blkM hgm
  simp only [rep] at hm
  have:=hm.2 r s1 n1 hat1
  cases this
  rw [guardB_iff] at hK
  obtain ⟨hn,hK⟩:=hK
  have hn:=Nat.eq_of_beq_eq_true hn
  subst hn
  have hborn : ∀ e∈ents.toList, ∃ kv,es[e.born]? = some kv∧rep F w ν kv.1 e.key∧rep F w ν kv.2 e.val:=by
   intro e hem
   obtain ⟨i,hi,hie⟩:=List.getElem_of_mem hem
   have hsz:i<es.length:=by rw [← he.1]; simpa using hi
   obtain ⟨e', q1,q2,q3,q4⟩:=he.2 i es[i] (List.getElem?_eq_getElem hsz)
   have:ents[i]? = some e:=by
    have hi' : i<ents.size:=by simpa using hi
    rw [Array.getElem?_eq_getElem hi']
    simpa using hie
   rw [this] at q1
   cases q1
   exact ⟨es[i],by rw [q2]; exact List.getElem?_eq_getElem hsz,q3,q4⟩
  have hold : ∀ e∈ents.toList,e.born<es.length:=fun e hem=>by
   obtain ⟨kv,h1,_⟩:=hborn e hem
   exact (List.getElem?_eq_some_iff.1 h1).1
  have hleft : ∀ e,e∈(leftOf ents seen.toArray).toList↔e∈ents.toList∧e.born ∉ seen:=by
   intro e
   simp [leftOf]
  rcases run_nextM (P:=P) w ty l r es.length seen.toArray ents hl hr hold with ⟨h0,hrun⟩ | ⟨e,hel,w1,g1,g2,g3,g4,g5,hrun⟩
  ·have hnil:leftN es.length seen=[]:=by
    rw [List.eq_nil_iff_forall_not_mem]
    intro i hi
    obtain ⟨i1,i2⟩:=leftN_mem.1 hi
    obtain ⟨e', q1,q2,_⟩:=he.2 i es[i] (List.getElem?_eq_getElem i1)
    have hmem:e' ∈ (leftOf ents seen.toArray).toList:=(hleft e').2 ⟨by simpa using Array.mem_of_getElem? q1,by rw [q2]; exact i2⟩
    have:=List.length_pos_of_mem hmem
    rw [Array.length_toList] at this
    omega
   rw [onNext,hnil] at hK
   refine ⟨_,w,ν,_,h,hrun,hK,hk,?_,Evo.refl _ _ _,fun b y hb _=>⟨rfl,hb⟩⟩
   simp only [rep]
   exact ⟨_,rfl,by simp [repL,rep]⟩
  ·obtain ⟨hem,hns⟩:=(hleft e).1 hel
   obtain ⟨kv,hkv,k1,k2⟩:=hborn e hem
   have hmem:e.born∈leftN es.length seen:=leftN_mem.2 ⟨(List.getElem?_eq_some_iff.1 hkv).1,hns⟩
   have hK:onSome es[e.born]? fun kv=>k (.tup [.raw (.bool true),kv.1,kv.2]) (h.put (.p c) (.it (.mp (.p b)) es.length (seen++[e.born]))):=by
    unfold onNext at hK
    split at hK
    ·rename_i hnil
     rw [hnil] at hmem
     cases hmem
    ·exact allIn_mem hK _ hmem
   rw [hkv] at hK
   have hlt:=lt_of_some hl
   obtain ⟨z1,z2⟩:=heap_setO (w' := { w1 with heap:=w1.heap.setIfInBounds l (.mapIter (some r) es.length (seen.toArray.push e.born) es.length) }) hk hat (get_putI h c (.it (.mp (.p b)) es.length (seen++[e.born]))) (put_nxt _ _ _) (put_cnt hk _ _)
    (fun q hq=>by simp only [Array.getElem?_setIfInBounds_ne (Ne.symm hq),g1]) (by simp [g1]) g2 g3 g4 (fun c1 e1 fr hc1=>by rw [hl] at hc1; cases hc1)
    (fun ev=>⟨some r,by simp [g1,hlt],rep_evo hk ev _ _ (by simp only [rep]; exact hm)⟩)
   refine ⟨_,_,ν,_,_,hrun,hK,z1,?_,z2,fun b' y hb' htc=>⟨?_,hb'⟩⟩
   ·refine rep_evo hk z2 _ _ ?_
    simp only [rep]
    refine ⟨_,rfl,?_⟩
    simp only [repL,rep]
    exact ⟨_,_,rfl,rfl,_,_,rfl,k1,_,_,rfl,k2,rfl⟩
   ·have hne:=ht _ _ _ rfl b' htc
    obtain ⟨q,s', n'⟩:=y
    have:q≠l:=fun he=>hne (by subst he; exact hk.inj _ _ _ _ _ _ _ hb' hat)
    simp only [Array.getElem?_setIfInBounds_ne (Ne.symm this),g1]
 ·rw [guardB_iff] at hK
  obtain ⟨hn,hK⟩:=hK
  have hn:=Nat.eq_of_beq_eq_true hn
  simp at hn
  subst hn
  simp only [rep] at hm
  cases hm
  have hnil:leftN 0 seen=[]:=rfl
  rw [onNext,hnil] at hK
  refine ⟨.tuple #[.bool false],w,ν,_,h,?_,hK,hk,?_,Evo.refl _ _ _,fun b y hb _=>⟨rfl,hb⟩⟩
  ·simp only [Instr.next,getObj,Sem.run_bind,Sem.run,hl,Result.andThen]
   rfl
  ·simp only [rep]
   exact ⟨_,rfl,by simp [repL,rep]⟩
theorem e_entry {P:Program} (hk:HeapOK ν F h w) {x:V} {x' : Value} {tch:Id→Bool} {k:V→Hp→Prop} (hx:rep F w ν x x') (hh:wEntry h x fun v=>k v h):EV P F ν w tch (Instr.entry x') k:=by
 unfold wEntry at hh
 rw [onIt_iff] at hh
 obtain ⟨c,m,n,seen,rfl,hg,hh⟩:=hh
 obtain ⟨l,s,j,mr,hat,hl,hm⟩:=it_at hk hg
 simp only [rep] at hx
 have hx' := hx.2 l s j hat
 subst hx'
 have hp:(⟨l,0 * s+0,none⟩:Addr)=⟨l,0,none⟩:=by simp
 rw [hp]
 rcases onMap_iff.1 hh with ⟨b,es,rfl,hgm,hK⟩ | ⟨rfl,hK⟩
 ·obtain ⟨r,s1,n1,ents,hat1,hr,he⟩:=hk.blkM hgm
  simp only [rep] at hm
  have:=hm.2 r s1 n1 hat1
  cases this
  rw [guardB_iff] at hK
  obtain ⟨hn,hK⟩:=hK
  have hn:=Nat.eq_of_beq_eq_true hn
  subst hn
  rw [onSome_iff] at hK
  obtain ⟨i,hlast,hK⟩:=hK
  rw [onSome_iff] at hK
  obtain ⟨kv,hkv,hK⟩:=hK
  obtain ⟨e,q1,q2,q3,q4⟩:=he.2 i kv hkv
  have hback:seen.toArray.back? = some i:=by simpa using hlast
  have hfind:ents.find? (fun e=>e.born==i)=some e:=by
   rw [Array.find?_eq_some_iff_getElem]
   refine ⟨by simp [q2],i,lt_of_some q1,by rw [Array.getElem?_eq_getElem (lt_of_some q1)] at q1; simpa using q1,fun j' hj' => ?_⟩
   have hj2:j' < es.length:=by have:=(List.getElem?_eq_some_iff.1 hkv).1; omega
   obtain ⟨e2,p1,p2,_⟩:=he.2 j' es[j'] (List.getElem?_eq_getElem hj2)
   rw [Array.getElem?_eq_getElem (lt_of_some p1)] at p1
   have p1:ents[j']'(by have:=lt_of_some q1; omega)=e2:=by simpa using p1
   simp only [p1,p2]
   simp
   omega
  refine ⟨.tuple #[e.key,e.val],w,ν,_,h,?_,hK,hk,?_,Evo.refl _ _ _,fun b y hb _=>⟨rfl,hb⟩⟩
  ·simp [Instr.entry,getObj,Sem.run_bind,Sem.run,hl,hr,Result.andThen,hback,hfind]
  ·simp only [rep]
   refine ⟨_,rfl,?_⟩
   simp only [repL]
   exact ⟨_,_,rfl,q3,_,_,rfl,q4,rfl⟩
 ·rw [guardB_iff] at hK
  obtain ⟨_,hK⟩:=hK
  rw [onSome_iff] at hK
  obtain ⟨i,_,hK⟩:=hK
  simp [onSome] at hK
end
end Go.Proofs.YtkkgicjioajimaaDoor.Clean
namespace Go.Proofs.YtkkgicjioajimaaDoor.Clean
set_option linter.unusedSimpArgs false
set_option linter.unusedVariables false
def Frm (ro:Option Nat):Fence:={ fn:=fun _=>True,depth:=none,alive:=false,round:=ro }
theorem callsIn_Frm {ro:Option Nat} {n:Nat} {P:Program} {f:FuncId} {args:Array Value} {w:World} {R:Ending→World→Prop}:CallsIn (Frm ro) n P f args w R↔Calls P f args w R :=
 callsIn_wide (n:=n)
section
variable {P:Program} {o:Oper}
def upo (P:Program) (o:Oper) (a:Act) (next:Act→World→Prop) (Q:Exit→Act→World→Prop):Result Next→Prop
 | .ok (.value v) w' => next (a.put o.dst v) w'
 | .ok .skip w' => next (a.put o.dst undef) w'
 | .ok (.enter f args) w' => Calls P f args w' fun
   | .returned v,w'' => next (a.put o.dst v) w''
   | .panicked chain,w'' => Q (.panic chain) a w''
   | .outgrown,_=>LetsOut Q
 | .ok (.round l f tmps assign body) w' => RoundIn (Frm none) 0 P l f tmps assign body w' fun
   | .returned v,w'' => next (a.put o.dst v) w''
   | .panicked chain,w'' => Q (.panic chain) a w''
   | .outgrown,_=>LetsOut Q
 | .halt (.panic v) w' => Q (.panic [{ v,recovered:=false }]) a w'
 | _=>False
def wpo (P:Program) (o:Oper) (a:Act) (w:World) (next:Act→World→Prop) (Q:Exit→Act→World→Prop):Prop :=
 (∀ c,o.op ≠ .defer c)∧upo P o a next Q ((execOp a.eval o).run P w)
theorem wpo_mono {a:Act} {w:World} {K K' : Act→World→Prop} {Q:Exit→Act→World→Prop} (h : ∀ a w,K a w→K' a w) (hh:wpo P o a w K Q):wpo P o a w K' Q:=by
 unfold wpo at *
 refine ⟨hh.1,?_⟩
 have hh:=hh.2
 generalize (execOp a.eval o).run P w=r at *
 cases r with
 | ok x w' =>
  cases x <;> simp only [upo] at hh ⊢ <;>
   first
    | exact h _ _ hh
    | exact Calls.mono hh (fun e w'' he=>by cases e <;> first | exact h _ _ he | exact he)
    | exact RoundIn.mono hh (fun e w'' he=>by cases e <;> first | exact h _ _ he | exact he)
 | halt x w' => cases x <;> simp only [upo] at hh ⊢ <;> exact hh
theorem wpo_in {ro:Option Nat} {a:Act} {w:World} {K:Act→World→Prop} {Q:Exit→Act→World→Prop} (h:wpo P o a w K Q):o.wpIn (Frm ro) 0 P a w K Q:=by
 unfold wpo at h
 refine ⟨fun _ _=>trivial,?_⟩
 rw [Oper.semAt_eq _ _ _ h.1]
 have h:=h.2
 generalize (execOp a.eval o).run P w=r at *
 cases r with
 | ok x w' =>
  cases x <;> simp only [upo] at h <;> simp only [Oper.uponIn]
  case value v=>exact h
  case skip=>exact h
  case enter f args=>exact ⟨fun h=>(by cases h),callsIn_Frm.2 h⟩
  case round l f tmps assign body=>exact ⟨fun h=>(by cases h),h⟩
 | halt x w' =>
  cases x <;> simp only [upo] at h <;> simp only [Oper.uponIn]
  case panic v=>exact h
end
section
variable {P:Program} {ops:Array Oper} {Q:Exit→Act→World→Prop} {md:Region.Mode}
def wpOp (P:Program) (ops:Array Oper) (Q:Exit→Act→World→Prop) (i:Nat) (K:Act→World→Prop) (a:Act) (w:World):Prop :=
 match ops[i]? with
 | none=>K a w
 | some o=>if Region.wanted o (yielded ops a.tmps) then wpo P o a w K Q else K (a.put o.dst undef) w
theorem wpOp_mono {i:Nat} {a:Act} {w:World} {K K' : Act→World→Prop} (h : ∀ a w,K a w→K' a w) (hh:wpOp P ops Q i K a w):wpOp P ops Q i K' a w:=by
 unfold wpOp at *
 split
 ·exact h _ _ (by simpa [*] using hh)
 ·rename_i o ho
  simp only [ho] at hh
  split
  ·rename_i hw; simp only [hw,if_true] at hh; exact wpo_mono h hh
  ·rename_i hw; simp only [hw] at hh; exact h _ _ hh
theorem wpOp_in {ro:Option Nat} {i:Nat} {a:Act} {w:World} {K:Act→World→Prop} (hh:wpOp P ops Q i K a w):wpOpIn (Frm ro) 0 P ops Q i K a w:=by
 unfold wpOp at hh
 unfold wpOpIn
 split
 ·simpa [*] using hh
 ·rename_i o ho
  simp only [ho] at hh
  split
  ·rename_i hw; simp only [hw,if_true] at hh; exact wpo_in hh
  ·rename_i hw; simp only [hw] at hh; exact ⟨fun _ _=>trivial,hh⟩
def wpOps (P:Program) (ops:Array Oper) (Q:Exit→Act→World→Prop):List Nat→Act→World→Prop
 | [],a,w=>Q .normal a w
 | i::rest,a,w=>wpOp P ops Q i (wpOps P ops Q rest) a w
theorem wpOps_in {ro:Option Nat} : ∀ (l:List Nat) {a:Act} {w:World},wpOps P ops Q l a w→wpOpsIn (Frm ro) 0 P ops Q l a w
 | [],a,w,h=>h
 | i::rest,a,w,h=>by
  rw [wpOpsIn_cons]
  exact wpOpIn_mono (fun a w h=>wpOps_in rest h) (wpOp_in h)
def wpAny (P:Program) (md:Region.Mode) (ops:Array Oper) (Q:Exit→Act→World→Prop):Nat→Array Bool→Act→World→Prop
 | 0,listed,a,w=>Region.ready md ops listed=[]∧Q .normal a w
 | fuel+1,listed,a,w =>
  (Region.ready md ops listed=[]→Q .normal a w) ∧
  ∀ i∈Region.ready md ops listed,wpOp P ops Q i (wpAny P md ops Q fuel (listed.setIfInBounds i true)) a w
theorem wpAny_in {ro:Option Nat} : ∀ (f:Nat) {l:Array Bool} {a:Act} {w:World},wpAny P md ops Q f l a w→wpAnyIn (Frm ro) 0 P md ops Q f l a w
 | 0,l,a,w,h=>h
 | f+1,l,a,w,h=>⟨h.1,fun i hi=>wpOpIn_mono (fun a w h=>wpAny_in f h) (wpOp_in (h.2 i hi))⟩
theorem nodefer_of {o:Oper} {a:Act} {v:Value} {w w' : World} (h:(execOp a.eval o).run P w = .ok (.value v) w') : ∀ c,o.op ≠ .defer c:=by
 intro c hc
 unfold execOp at h
 rw [hc] at h
 simp only [Sem.run_bind,Sem.run_pure] at h
 generalize (resolve a.eval c o.type).run P w=r at h
 cases r <;> simp [Result.andThen] at h
theorem yif_wpOp {S:World→Prop} {i:Nat} {o:Oper} {v:Value} {a:Act} (hi:ops[i]? = some o) (hy:YieldsIf P ops S o v a)
  {K:Act→World→Prop} {w:World} (hS:S w) (h:K (a.put o.dst v) w):wpOp P ops Q i K a w:=by
 unfold wpOp
 simp only [hi]
 rcases hy with ⟨hw,hv⟩ | ⟨hw,rfl⟩
 ·simp only [hw,if_true]
  refine ⟨nodefer_of (hv w hS),?_⟩
  rw [hv w hS]
  exact h
 ·simp only [hw,Bool.false_eq_true,if_false]; exact h
theorem wpOp_putIf {S:World→Prop} {j:Nat} {oi oj:Oper} {v:Value} (hj:ops[j]? = some oj) (hap:oi.apart ops oj=true)
  (hsi : ∀ cs b,oi.op ≠ .select cs b) (hsj : ∀ cs b,oj.op ≠ .select cs b)
  (hQ : ∀ c a w,Q (.panic c) (a.put oi.dst v) w→Q (.panic c) a w) {K:Act→World→Prop} {a:Act} {w:World}
  (hy:YieldsIf P ops S oi v a) (h:wpOp P ops Q j K (a.put oi.dst v) w) :
  wpOp P ops Q j (fun a' w' => YieldsIf P ops S oi v a' ∧ K (a'.put oi.dst v) w') a w:=by
 obtain ⟨h1,h2,h3⟩:=Oper.apart_spec hap
 have keep : ∀ (a:Act),YieldsIf P ops S oi v a → ∀ u,YieldsIf P ops S oi v (a.put oj.dst u):=fun a hy u =>
  hy.of_same (execOp_put oi hsi a oj.dst u h3) (wanted_put oi a oj.dst u h3)
 unfold wpOp at *
 simp only [hj] at *
 rw [wanted_put oj a oi.dst v h1] at h
 split
 ·rename_i hw
  simp only [hw,if_true] at h
  refine ⟨h.1,?_⟩
  have h:=h.2
  rw [execOp_put oj hsj a oi.dst v h1] at h
  generalize (execOp a.eval oj).run P w=r at *
  cases r with
  | ok n w' =>
   cases n <;> simp only [upo] at h ⊢
   case value u=>exact ⟨keep a hy u,by rw [← Act.put_comm a v u h2]; exact h⟩
   case skip=>exact ⟨keep a hy _,by rw [← Act.put_comm a v undef h2]; exact h⟩
   case enter f args =>
    refine Calls.mono h fun e w'' he=>?_
    cases e with
    | returned u=>exact ⟨keep a hy u,by rw [← Act.put_comm a v u h2]; exact he⟩
    | panicked c=>exact hQ _ _ _ he
    | outgrown=>exact he
   case round l f tmps assign body =>
    refine RoundIn.mono h fun e w'' he=>?_
    cases e with
    | returned u=>exact ⟨keep a hy u,by rw [← Act.put_comm a v u h2]; exact he⟩
    | panicked c=>exact hQ _ _ _ he
    | outgrown=>exact he
  | halt x w' =>
   cases x <;> simp only [upo] at h ⊢
   case panic u=>exact hQ _ _ _ h
 ·rename_i hw
  simp only [hw] at h
  exact ⟨keep a hy _,by rw [← Act.put_comm a v undef h2]; exact h⟩
theorem region_in {ro:Option Nat} {id:Nat} {a:Act} {w:World} (h:wpOps P ops Q (List.range ops.size) a w):(Code.region id ops false).wpIn (Frm ro) 0 P Q a w :=
 wpIn_region (wpOps_in _ h)
theorem region_any_in {ro:Option Nat} {id:Nat} {a:Act} {w:World} (hm:P.follows .mixedOrders=true) (h:wpAny P .any ops Q ops.size (Array.replicate ops.size false) a { w with drawn:=w.drawn+1 }):(Code.region id ops true).wpIn (Frm ro) 0 P Q a w :=
 wpIn_region_any hm (wpAny_in _ h)
end
section
variable {F:Fence} {n:Nat} {P:Program} {Q:Exit→Act→World→Prop} {a:Act} {w:World}
section
variable {b:Frame} {k:List Item} {cs:List Frame}
theorem stepR_scope {c:Code}:step P (lone (b.atR a (.code (.scope c)::k)) cs w) = .next (lone (b.atR a (.code c :: .inScope c::k)) cs w) :=
 step_lone_go (by simp [stepG,stepG.exec,Frame.atR])
theorem stepR_inScope {c:Code}:step P (lone (b.atR a (.inScope c::k)) cs w) = .next (lone (b.atR a k) cs w) :=
 step_lone_go (by simp [stepG,stepG.exec,Frame.atR])
end
theorem wpIn_scope_straight {c:Code} (h:c.wpIn F n P (Exit.noGoto Q) a w):(Code.scope c).wpIn F n P Q a w:=by
 intro b k cs hro hb hr
 have h0:(lone (b.atR a (.code (.scope c)::k)) cs w).fenced P F:=fenced_calm hb hr rfl
 obtain ⟨e,a₁,w₁,hq,harr⟩:=h b (.inScope c::k) cs hro hb hr
 cases e with
 | normal=>exact ⟨.normal,a₁,w₁,hq,.head h0 stepR_scope (StepsIn.trans harr (.one (fenced_calm hb hr rfl) stepR_inScope))⟩
 | exit id =>
  have hx:exitTo id (.inScope c::k)=exitTo id k:=by simp [exitTo]
  exact ⟨.exit id,a₁,w₁,hq,fun k' hk => .head h0 stepR_scope (harr.1 k' (by rw [hx]; exact hk)),
   fun hr' hk=>let ⟨k₁,h1,h2⟩:=harr.2 hr' (by rw [hx]; exact hk); ⟨k₁,h1,.head h0 stepR_scope h2⟩⟩
 | goto l=>exact hq.elim
 | ret=>exact ⟨_,a₁,w₁,hq,.of_steps (.one h0 stepR_scope) harr⟩
 | panic ch=>exact ⟨_,a₁,w₁,hq,.of_steps (.one h0 stepR_scope) harr⟩
 | outgrown=>exact ⟨_,a₁,w₁,hq,.of_steps (.one h0 stepR_scope) harr⟩
def LoopFrom (F:Fence) (n:Nat) (P:Program) (c:Code) (Q:Exit→Act→World→Prop) (a:Act) (w:World):Prop :=
 ∀ (b:Frame) (k:List Item) (cs:List Frame),b.roundOf=F.round→F.fn b.fn→F.room (cs.length+1+n) →
  ∃ e a' w', Q e a' w' ∧ ArrivesIn (Machine.fenced P F) P (lone (b.atR a (.code c :: .inLoop c::k)) cs w) b k cs e a' w'
theorem loopFrom_round {c:Code} (h:c.wpIn F n P (Exit.then (LoopFrom F n P c Q) Q) a w):LoopFrom F n P c Q a w:=by
 intro b k cs hro hb hr
 obtain ⟨e,a₁,w₁,hq,harr⟩:=h b (.inLoop c::k) cs hro hb hr
 cases e with
 | normal =>
  obtain ⟨e₂,a₂,w₂,hq₂,harr₂⟩:=hq b k cs hro hb hr
  exact ⟨e₂,a₂,w₂,hq₂,.of_steps (StepsIn.trans harr (.one (fenced_calm hb hr rfl) stepR_inLoop)) harr₂⟩
 | exit id=>exact ⟨_,a₁,w₁,hq,.pass (x := .inLoop c) rfl (fun _ _ => .inl (by simp)) harr⟩
 | goto l=>exact ⟨_,a₁,w₁,hq,.pass (x := .inLoop c) rfl (fun _ _ => .inl (by simp)) harr⟩
 | ret=>exact ⟨_,a₁,w₁,hq,.pass (x := .inLoop c) rfl (fun _ _ => .inl (by simp)) harr⟩
 | panic ch=>exact ⟨_,a₁,w₁,hq,.pass (x := .inLoop c) rfl (fun _ _ => .inl (by simp)) harr⟩
 | outgrown=>exact ⟨_,a₁,w₁,hq,.pass (x := .inLoop c) rfl (fun _ _ => .inl (by simp)) harr⟩
theorem wpIn_loop_from {c:Code} (h:LoopFrom F n P c Q a w):(Code.loop c).wpIn F n P Q a w:=by
 intro b k cs hro hb hr
 obtain ⟨e,a', w', hq,harr⟩:=h b k cs hro hb hr
 exact ⟨e,a', w', hq,.of_steps (.one (fenced_calm hb hr rfl) stepR_loop) harr⟩
end
end Go.Proofs.YtkkgicjioajimaaDoor.Clean
namespace Go.Proofs.YtkkgicjioajimaaDoor.Clean
set_option linter.unusedSimpArgs false
set_option linter.unusedVariables false
def GlobOK (G:Nat→Option (List V)) (F:Nat→Prop) (w:World):Prop := ∀ g cs,G g=some cs→ri F w (.adr cs 0) (.pointer (some ⟨g,0,none⟩))
def K0G (P:Program) (G:Nat→Option (List V)) (f:FuncId) (args:List V) (R:V→Prop):Prop :=
 ∀ (F:Nat→Prop) (w:World) (xs:List Value),(∀ r,F r→r<w.heap.size)→GlobOK G F w→riL F w args xs →
  Calls P f xs.toArray w fun e w' => ∃ x v F', e = .returned x∧R v∧ri F' w' v x∧BelowD w.heap.size w w' ∧ (∀ r,F r→F' r)∧(∀ r,F' r→F r∨w.heap.size≤r)∧(∀ r,F' r→r<w'.heap.size)
abbrev K0 (P:Program) (f:FuncId) (args:List V) (R:V→Prop):Prop:=K0G P (fun _=>none) f args R
def K (P:Program) (G:Nat→Option (List V)) (f:FuncId) (args:List V) (h:Hp) (t:Id→Bool) (R:V→Hp→Prop):Prop :=
 ∀ (ν:Nu) (F:Nat→Prop) (w:World) (xs:List Value),HeapOK ν F h w→GlobOK G F w→repL F w ν args xs →
  Calls P f xs.toArray w fun e w' => ∃ x v ν' F' h', e = .returned x∧R v h' ∧ HeapOK ν' F' h' w' ∧ rep F' w' ν' v x∧Evo ν F w ν' F' w' ∧ ∀ b y,ν.at_ b=some y→t b=false→w'.heap[y.1]? = w.heap[y.1]? ∧ ν'.at_ b=some y
def Ky (P:Program) (G:Nat→Option (List V)) (b:Id) (args:List V) (h:Hp) (t:Id→Bool) (R:V→Hp→Prop):Prop :=
 ∀ (ν:Nu) (F:Nat→Prop) (w:World) (xs:List Value),HeapOK ν F h w→GlobOK G F w→repL F w ν args xs →
  ∃ l s n f tmps assign body,ν.at_ b=some (l,s,n)∧(Instr.yield l xs.toArray).run P w = .ok (.round l f tmps assign body) w ∧
   RoundIn (Frm none) 0 P l f tmps assign body w fun e w' => ∃ x v ν' F' h', e = .returned x∧R v h' ∧ HeapOK ν' F' h' w' ∧ rep F' w' ν' v x∧Evo ν F w ν' F' w' ∧ ∀ b y,ν.at_ b=some y→t b=false→w'.heap[y.1]? = w.heap[y.1]? ∧ ν'.at_ b=some y
structure Calling.ok (P:Program) (C:Calling):Prop where
 kn : ∀ g r,C.kn g=some r→K0G P C.glob g [] fun v=>v=r
 cf : ∀ f ty args h (k:V→Hp→Prop),C.c0 f (trL (handT h (refsL args)) args) (fun v=>typedT P true ty v fun v=>k v (delAll h (refsL args)))→K P C.glob f args h (fun b=>(refsL args).any b.beq) k
 cb : ∀ f ty args h (k:V→Hp→Prop),(lentOf h args).ok=true→C.cb f (trL (renOf (lentOf h args).blocks) args) ⟨keepBs (renOf (lentOf h args).blocks) [] h (lentOf h args).blocks,(lentOf h args).nxt,[]⟩ (fun v=>thawT P ty v h k)→K P C.glob f args h (fun _=>false) k
 ct : ∀ f ty args h (k:V→Hp→Prop),C.c0 f (trL (handT h (refsL args)) args) (fun v=>typedT P true ty v fun v=>v.blur fun v=>k v h)→K P C.glob f args h (fun _=>false) k
 mono : ∀ f args (R R' : V→Prop),C.c0 f args R→(∀ v,R v→R' v)→C.c0 f args R'
 c0 : ∀ f args R,C.c0 f args R→K0G P C.glob f args R
 c : ∀ f args h R,C.c f args h R→K P C.glob f args h (C.t f args h) R
 y : ∀ b args h R,C.y b args h R→Ky P C.glob b args h C.ty R
theorem K0G.mono' {P:Program} {G:Nat→Option (List V)} {f:FuncId} {args:List V} {R R' : V→Prop} (h:K0G P G f args R) (hr : ∀ v,R v→R' v):K0G P G f args R' :=
 fun F w xs hF hG hxs=>(h F w xs hF hG hxs).mono fun e w' ⟨x,v,F', h1,h2,h3⟩=>⟨x,v,F', h1,hr v h2,h3⟩
section
variable {F:Nat→Prop} {w:World} {ν:Nu} {h:Hp}
def QN (P:Program) (F:Nat→Prop) (ν:Nu) (w:World) (fp:Option Id) (c:Sem Next) (k:V→Prop):Prop :=
 ∃ x v,k v∧rep F w ν v x ∧ ∀ w', Agree F ν fp w w' → c.run P w' = .ok (.value x) w'
theorem QV.next {P:Program} {fp:Option Id} {c:Sem Value} {k:V→Prop} (hq:QV P F ν w fp c k):QN P F ν w fp (c >>= fun y=>Pure.pure (Next.value y)) k:=by
 obtain ⟨x,v,h1,h2,h3⟩:=hq
 exact ⟨x,v,h1,h2,fun w' ha=>by simp [h3 w' ha]⟩
theorem QN.mk {P:Program} {fp:Option Id} {c:Sem Next} {k:V→Prop} (x:Value) (v:V) (hk:k v) (hr:rep F w ν v x) (hc : ∀ w', c.run P w' = .ok (.value x) w'):QN P F ν w fp c k :=
 ⟨x,v,hk,hr,fun w' _=>hc w'⟩
theorem repL_map' {ρV:Operand→V} {ρ:Operand→Value} (hρ : ∀ x,rep F w ν (ρV x) (ρ x)) (l:Array Operand):repL F w ν (l.toList.map ρV) (l.map ρ).toList:=by
 rw [Array.toList_map]; exact repL_map hρ _
theorem q_sound {P:Program} {C:Calling} {o:Oper} {ρV:Operand→V} {ρ:Operand→Value} (hρ : ∀ x,rep F w ν (ρV x) (ρ x)) (hk:HeapOK ν F h w) {k:V→Hp→Prop} (hq:quietOp o.op=true) (hh:wop P C ρV h o.type o.op k) :
  QN P F ν w (readsB ρV o.op) (execOp ρ o) (fun v=>k v h):=by
 obtain ⟨dst,op,type,pos,after,guard⟩:=o
 cases op <;> simp only [quietOp,Bool.false_eq_true] at hq <;> simp only [wop] at hh <;> simp only [execOp,readsB]
 case move x=>exact QN.mk _ _ hh (hρ x) (fun w' => by simp)
 case assign x=>exact QN.mk _ _ hh (hρ x) (fun w' => by simp)
 case pick c a b =>
  rw [onBool_iff] at hh
  obtain ⟨t,ht,hh⟩:=hh
  have hc:=hρ c
  rw [ht] at hc
  simp only [rep] at hc
  refine QN.mk (if t then ρ a else ρ b) _ hh ?_ (fun w' => by simp [hc,asBool])
  cases t
  ·exact hρ b
  ·exact hρ a
 case load t x=>exact (q_load hk (hρ x) hh).next
 case lookup t x i ok=>exact (q_lookup hk (hρ x) (hρ i) hh).next
 case build t parts=>exact (q_build hρ hk hh).next
 case slice t x lo hi mx=>exact (q_slice hρ hk (hρ x) hh).next
 case nilCheck x =>
  split at hh
  ·rename_i b i off hx
   rw [guardB_iff] at hh
   obtain ⟨ob,hb⟩:=has_iff.1 hh.1
   have hr:=hρ x
   rw [hx] at hr
   have hr' := hr
   simp only [rep] at hr
   obtain ⟨⟨r,s,n⟩,hat⟩:=hk.domP b ob hb hr.1.2
   refine QN.mk (.pointer (some ⟨r,i * s+off,none⟩)) _ hh.2 ?_ (fun w' => by rw [hr.2 r s n hat]; simp)
   rw [← hr.2 r s n hat]; exact hr'
  ·rename_i cs off hx
   have hr:=hρ x
   rw [hx] at hr
   have hr' := hr
   simp only [rep,ri] at hr
   obtain ⟨b,o,hxx,_⟩:=hr
   refine QN.mk (ρ x) _ hh hr' (fun w' => by rw [hxx]; simp)
  ·exact hh.elim
 case binOp op t x y yt =>
  split at hh
  ·rename_i hy
   have:=hρ y
   rw [hy] at this
   simp only [rep] at this
   rw [this]
   exact (q_isNil (op := .eql) (fn:=false) (yo:=y) hk (hρ x) (.inl rfl) (by simpa using hh)).next
  ·rename_i hy
   have:=hρ y
   rw [hy] at this
   simp only [rep] at this
   rw [this]
   exact (q_isNil (op := .neq) (fn:=false) (yo:=y) hk (hρ x) (.inr rfl) hh).next
  ·rename_i hy
   have:=hρ y
   rw [hy] at this
   simp only [rep] at this
   rw [this]
   exact (q_isNil (op := .eql) (fn:=true) (yo:=y) hk (hρ x) (.inl rfl) (by simpa using hh)).next
  ·rename_i hy
   have:=hρ y
   rw [hy] at this
   simp only [rep] at this
   rw [this]
   exact (q_isNil (op := .neq) (fn:=true) (yo:=y) hk (hρ x) (.inr rfl) hh).next
  ·exact (q_bin (hρ x) (hρ y) hh).next
 case unOp op t x=>exact (q_un (hρ x) hh).next
 case convert src dst x =>
  rw [onSome_iff] at hh
  obtain ⟨ds,hs,hh⟩:=hh
  exact (q_conv hk hs (hρ x) hh).next
 case makeFunc f a c =>
  refine QN.mk (.func f (a.map ρ) (c.map ρ)) _ hh ?_ (fun w' => by simp [Instr.makeFunc])
  simp only [rep]
  exact ⟨_,_,rfl,repL_map' hρ a,repL_map' hρ c⟩
 case fieldAddr s x f=>exact (q_fieldAddr hk (hρ x) hh).next
 case field s x f=>exact (q_field (hρ x) hh).next
 case indexAddr t x i=>exact (q_indexAddr hk (hρ x) (hρ i) hh).next
 case index t x i=>exact (q_index (hρ x) (hρ i) hh).next
 case extract x i =>
  split at hh
  ·rename_i vs hx
   simp only [onSome_iff] at hh
   obtain ⟨v,hv,hh⟩:=hh
   have hr:=hρ x
   rw [hx] at hr
   simp only [rep] at hr
   obtain ⟨xs,hxx,hl⟩:=hr
   obtain ⟨y,h1,h2⟩:=repL_get hl i v hv
   have h1' : xs[i]? = some y:=by simpa using h1
   exact QN.mk y v hh h2 (fun w' => by rw [hxx]; simp [Instr.extract,h1'])
  ·exact hh.elim
 case call c =>
  obtain ⟨callee,args,argTypes⟩:=c
  cases callee with
  | value f=>simp at hq
  | invoke r m=>simp at hq
  | builtin b =>
   cases b <;> simp at hq <;> simp only [wCall] at hh
   case len =>
    split at hh
    ·rename_i t ts x hts hx
     have hat:argTypes=(t::ts).toArray:=by rw [← hts]
     have har:args = #[x]:=by rw [← Array.toArray_toList (xs:=args),hx]
     subst hat; subst har
     obtain ⟨y,v,h1,h2,h3⟩:=q_len (P:=P) (fp:=mapOf (ρV x)) (ts:=ts) (ty:=type) hk (hρ x) (fun b hb=>by rw [hb]; rfl) hh
     have hfp:(match (Callee.builtin Builtin.len:Callee),(#[x]:Array Operand).toList.map ρV with | .builtin .len,.mp b::_=>some b | _,_=>(none:Option Id))=mapOf (ρV x):=by
      simp only [List.map]
      cases ρV x <;> rfl
     exact ⟨y,v,h1,h2,fun w' ha=>by have h3' := h3 w' (by rw [← hfp]; exact ha); simp [resolve,invoke,builtin]; first | (rw [h3']; rfl) | (simp at h3'; rw [h3']; rfl)⟩
    ·exact hh.elim
   case cap =>
    split at hh
    ·rename_i t ts x hts hx
     have hat:argTypes=(t::ts).toArray:=by rw [← hts]
     have har:args = #[x]:=by rw [← Array.toArray_toList (xs:=args),hx]
     subst hat; subst har
     obtain ⟨y,v,h1,h2,h3⟩:=q_cap (P:=P) (fp:=none) (ts:=ts) (ty:=type) (hρ x) hh
     exact ⟨y,v,h1,h2,fun w' ha=>by have h3' := h3 w' ha; simp [resolve,invoke,builtin]; first | (rw [h3']; rfl) | (simp at h3'; rw [h3']; rfl)⟩
    ·exact hh.elim
   case min =>
    split at hh
    ·rename_i kk a kk' b hx
     have hl:args.toList.length=2:=by have:=congrArg List.length hx; simpa using this
     obtain ⟨l⟩:=args
     match l,hl with
     | [x,y],_ =>
      simp at hx
      have h1:=hρ x
      have h2:=hρ y
      rw [hx.1] at h1; rw [hx.2] at h2
      simp only [rep] at h1 h2
      exact QN.mk _ _ hh (by simp only [rep]; rfl) (fun w' => by simp [resolve,invoke,builtin,Builtin.min_,Builtin.min2,h1,h2])
    ·rename_i kk a k1 b k2 c hx
     have hl:args.toList.length=3:=by have:=congrArg List.length hx; simpa using this
     obtain ⟨l⟩:=args
     match l,hl with
     | [x,y,z],_ =>
      simp at hx
      have h1:=hρ x
      have h2:=hρ y
      have h3:=hρ z
      rw [hx.1] at h1; rw [hx.2.1] at h2; rw [hx.2.2] at h3
      simp only [rep] at h1 h2 h3
      exact QN.mk _ _ hh (by simp only [rep]; rfl) (fun w' => by simp [resolve,invoke,builtin,Builtin.min_,Builtin.min2,h1,h2,h3])
    ·exact hh.elim
   case max =>
    split at hh
    ·rename_i kk a kk' b hx
     have hl:args.toList.length=2:=by have:=congrArg List.length hx; simpa using this
     obtain ⟨l⟩:=args
     match l,hl with
     | [x,y],_ =>
      simp at hx
      have h1:=hρ x
      have h2:=hρ y
      rw [hx.1] at h1; rw [hx.2] at h2
      simp only [rep] at h1 h2
      exact QN.mk _ _ hh (by simp only [rep]; rfl) (fun w' => by simp [resolve,invoke,builtin,Builtin.max_,Builtin.max2,h1,h2])
    ·rename_i kk a k1 b k2 c hx
     have hl:args.toList.length=3:=by have:=congrArg List.length hx; simpa using this
     obtain ⟨l⟩:=args
     match l,hl with
     | [x,y,z],_ =>
      simp at hx
      have h1:=hρ x
      have h2:=hρ y
      have h3:=hρ z
      rw [hx.1] at h1; rw [hx.2.1] at h2; rw [hx.2.2] at h3
      simp only [rep] at h1 h2 h3
      exact QN.mk _ _ hh (by simp only [rep]; rfl) (fun w' => by simp [resolve,invoke,builtin,Builtin.max_,Builtin.max2,h1,h2,h3])
    ·exact hh.elim
def Outc (P:Program) (C:Calling) (F:Nat→Prop) (ν:Nu) (w:World) (h:Hp) (tch:Id→Bool) (r:Result Next) (k:V→Hp→Prop):Prop :=
 (∃ F' x w' ν' v h', (r = .ok (.value x) w' ∨ (r = .ok .skip w' ∧ x=undef))∧k v h' ∧ HeapOK ν' F' h' w' ∧ rep F' w' ν' v x∧Evo ν F w ν' F' w' ∧
  ∀ b y,ν.at_ b=some y→tch b=false→w'.heap[y.1]? = w.heap[y.1]? ∧ ν'.at_ b=some y) ∨
 (∃ g vs xs,r = .ok (.enter g xs.toArray) w∧repL F w ν vs xs∧((closedL vs=true∧K0G P C.glob g vs (fun v => ∃ v', k v' h ∧ ∀ {F:Nat→Prop} {w:World} {ν:Nu} {x:Value},rep F w ν v x→rep F w ν v' x)) ∨ ∃ t,(∀ b,tch b=false→t b=false)∧K P C.glob g vs h t k)) ∨
 (∃ l f tmps assign body,r = .ok (.round l f tmps assign body) w∧RoundIn (Frm none) 0 P l f tmps assign body w fun e w' => ∃ x v ν' F' h', e = .returned x∧k v h' ∧ HeapOK ν' F' h' w' ∧ rep F' w' ν' v x∧Evo ν F w ν' F' w' ∧ ∀ b y,ν.at_ b=some y→tch b=false→w'.heap[y.1]? = w.heap[y.1]? ∧ ν'.at_ b=some y)
theorem EV.outc {P:Program} {C:Calling} {tch:Id→Bool} {c:Sem Value} {k:V→Hp→Prop} (he:EV P F ν w tch c k):Outc P C F ν w h tch ((c >>= fun y=>Pure.pure (Next.value y):Sem Next).run P w) k:=by
 obtain ⟨x,w', ν', v,h', h1,h2,h3,h4,h5,h6⟩:=he
 exact .inl ⟨F,x,w', ν', v,h', .inl (by simp [h1]),h2,h3,h4,h5,h6⟩
theorem EVF.outc {P:Program} {C:Calling} {tch:Id→Bool} {c:Sem Value} {k:V→Hp→Prop} (he:EVF P F ν w tch c k):Outc P C F ν w h tch ((c >>= fun y=>Pure.pure (Next.value y):Sem Next).run P w) k:=by
 obtain ⟨F', x,w', ν', v,h', h1,h2,h3,h4,h5,h6⟩:=he
 exact .inl ⟨F', x,w', ν', v,h', .inl (by simp [h1]),h2,h3,h4,h5,h6⟩
theorem QN.outc {P:Program} {C:Calling} {tch:Id→Bool} {fp:Option Id} {c:Sem Next} {k:V→Hp→Prop} (hk:HeapOK ν F h w) (hq:QN P F ν w fp c (fun v=>k v h)):Outc P C F ν w h tch (c.run P w) k:=by
 obtain ⟨x,v,h1,h2,h3⟩:=hq
 exact .inl ⟨F,x,w,ν,v,h,.inl (h3 w (Agree.refl fp)),h1,hk,h2,Evo.refl ν F w,fun _ _ hb _=>⟨rfl,hb⟩⟩
theorem subE_some : (Extern.allRows.lookup "math/bits.Sub64").isSome = true := by kernel_rfl
theorem addE_some : (Extern.allRows.lookup "math/bits.Add64").isSome = true := by kernel_rfl
def subE : Array Value → Sem Value := (Extern.allRows.lookup "math/bits.Sub64").get subE_some
def addE : Array Value → Sem Value := (Extern.allRows.lookup "math/bits.Add64").get addE_some
theorem run_subE0 {P:Program} (x y:Nat) (w:World):(subE #[.int .u64 x,.int .u64 y,.int .u64 0]).run P w =
  .ok (.tuple #[.int .u64 (((x+18446744073709551616 - y - 0) % 18446744073709551616:Nat):Int),.int .u64 ((if x<y+0 then 1 else 0:Nat):Int)]) w:=by kernel_rfl
theorem run_subE1 {P:Program} (x y:Nat) (w:World):(subE #[.int .u64 x,.int .u64 y,.int .u64 1]).run P w =
  .ok (.tuple #[.int .u64 (((x+18446744073709551616 - y - 1) % 18446744073709551616:Nat):Int),.int .u64 ((if x<y+1 then 1 else 0:Nat):Int)]) w:=by kernel_rfl
theorem run_addE0 {P:Program} (x y:Nat) (w:World):(addE #[.int .u64 x,.int .u64 y,.int .u64 0]).run P w =
  .ok (.tuple #[.int .u64 (((x+y+0) % 18446744073709551616:Nat):Int),.int .u64 (((x+y+0) / 18446744073709551616:Nat):Int)]) w:=by kernel_rfl
theorem run_addE1 {P:Program} (x y:Nat) (w:World):(addE #[.int .u64 x,.int .u64 y,.int .u64 1]).run P w =
  .ok (.tuple #[.int .u64 (((x+y+1) % 18446744073709551616:Nat):Int),.int .u64 (((x+y+1) / 18446744073709551616:Nat):Int)]) w:=by kernel_rfl
theorem run_subE {P:Program} (x y b:Nat) (hb:b≤1) (w:World):(subE #[.int .u64 x,.int .u64 y,.int .u64 b]).run P w =
  .ok (.tuple #[.int .u64 (((x+18446744073709551616 - y - b) % 18446744073709551616:Nat):Int),.int .u64 ((if x<y+b then 1 else 0:Nat):Int)]) w:=by
 have:b=0∨b=1:=by omega
 rcases this with h | h <;> subst h
 ·exact run_subE0 x y w
 ·exact run_subE1 x y w
theorem run_addE {P:Program} (x y b:Nat) (hb:b≤1) (w:World):(addE #[.int .u64 x,.int .u64 y,.int .u64 b]).run P w =
  .ok (.tuple #[.int .u64 (((x+y+b) % 18446744073709551616:Nat):Int),.int .u64 (((x+y+b) / 18446744073709551616:Nat):Int)]) w:=by
 have:b=0∨b=1:=by omega
 rcases this with h | h <;> subst h
 ·exact run_addE0 x y w
 ·exact run_addE1 x y w
theorem ext_find {fn:Func} {n:String} {e:Array Value→Sem Value} (hn:fn.name=n) (h1:Extern.allGenericRows.lookup n=none) (h2:Extern.allTypedRows.lookup n=none) (h3:Extern.allRows.lookup n=some e):Extern.find fn=some e:=by
 subst hn
 simp [Extern.find,h1,h2,h3]
theorem ext_next {fn : Func} {n : String} (hn : fn.name = n) (ho : fn.origin = "") (h1 : Extern.allNextRows.lookup n = none) : Extern.findNext fn = none := by
 subst hn
 have h2 : Extern.allNextRows.lookup "" = none := by kernel_rfl
 simp [Extern.findNext,ho,h1,h2]
theorem ext_sound {P : Program} {g : FuncId} {fn : Func} (hf : P.funcs[g]? = some fn) (hb : fn.body = none) (horg : fn.origin = "") {vs : List V} {xs : List Value} (hl : repL F w ν vs xs) {k : V → Prop} (hh : wExt fn.name vs k) :
  ∃ x v,k v∧rep F w ν v x ∧ ∀ w' : World,(callFunc g xs.toArray).run P w' = .ok (.value x) w' := by
 unfold wExt at hh
 split at hh
 ·rename_i x y c
  simp only [repL] at hl
  obtain ⟨x', l1,rfl,hx,y', l2,rfl,hy,c', l3,rfl,hc,rfl⟩:=hl
  simp only [rep] at hx hy hc
  subst hx; subst hy; subst hc
  simp only [onNat_iff,need_iff] at hh
  obtain ⟨x,rfl,y,rfl,c,rfl,hc,hh⟩:=hh
  have two : ∀ (a b:Value),rep F w ν (.tup [.raw a,.raw b]) (.tuple #[a,b]):=fun a b=>by simp only [rep]; exact ⟨_,rfl,repL_raw (w:=w) (F:=F) (ν:=ν) [a,b]⟩
  split at hh
  ·rename_i h0
   simp only [onSub] at hh
   have hn : fn.name = "math/bits.Sub64" := eq_of_beq h0
   refine ⟨_,_,hh,two _ _,fun w' => ?_⟩
   rw [run_callFunc_extern hf (by rw [hn]; kernel_rfl) (by simp [hb]) (ext_next hn horg (by kernel_rfl)) (ext_find (e:=subE) hn (by kernel_rfl) (by kernel_rfl) (by kernel_rfl)),run_subE x y c hc]
   rfl
  ·rename_i h1 h0
   simp only [onAdd] at hh
   have hn : fn.name = "math/bits.Add64" := by first | exact eq_of_beq h0 | exact eq_of_beq h1
   refine ⟨_,_,hh,two _ _,fun w' => ?_⟩
   rw [run_callFunc_extern hf (by rw [hn]; kernel_rfl) (by simp [hb]) (ext_next hn horg (by kernel_rfl)) (ext_find (e:=addE) hn (by kernel_rfl) (by kernel_rfl) (by kernel_rfl)),run_addE x y c hc]
   rfl
  ·exact hh.elim
 ·exact hh.elim
theorem op_sound {P:Program} {C:Calling} (hC:C.ok P) {o:Oper} {ρV:Operand→V} {ρ:Operand→Value} (hρ : ∀ x,rep F w ν (ρV x) (ρ x)) (hk:HeapOK ν F h w) (hg:GlobOK C.glob F w) {k:V→Hp→Prop} (hh:wop P C ρV h o.type o.op k) :
  Outc P C F ν w h (touches C ρV h o.op) ((execOp ρ o).run P w) k:=by
 by_cases hq:quietOp o.op=true
 ·exact (q_sound (P:=P) (C:=C) hρ hk hq hh).outc hk
 ·obtain ⟨dst,op,type,pos,after,guard⟩:=o
  cases op <;> simp only [quietOp,not_true_eq_false,Bool.false_eq_true,not_false_eq_true] at hq <;> simp only [wop] at hh <;> simp only [execOp]
  case box t x=>exact (e_box hk (hρ x) hh).outc
  case alloc t=>exact (e_alloc hk hh).outc
  case buildSlice t len parts=>exact (e_buildSlice hρ hk hh).outc
  case makeSlice t l c=>exact (e_makeSlice hk (hρ l) (hρ c) hh).outc
  case store t x v =>
   obtain ⟨w', h', h1,h2,h3,h4,h5⟩:=e_store (P:=P) (tch:=touches C ρV h (.store t x v)) hk (hρ x) (hρ v) (by
    intro b i off hx b' htc
    simp only [touches,hx] at htc
    intro hne; subst hne; simp at htc) hh
   exact .inl ⟨F,undef,w', ν,.junk,h', .inr ⟨by simp [h1],rfl⟩,h2,h3,by simp only [rep],h4,fun b y hb htc=>⟨h5 b y hb htc,hb⟩⟩
  case makeMap t r=>exact (e_makeMap hk (fun v hv=>by
    cases r with
    | none=>simp at hv
    | some x=>simp at hv; exact ⟨ρ x,rfl,hv ▸ hρ x⟩) (fun hn=>by cases r with | none=>rfl | some x=>simp at hn) hh).outc
  case mapUpdate t m x v =>
   obtain ⟨w', h', h1,h2,h3,h4,h5⟩:=e_mapUpdate (P:=P) (tch:=touches C ρV h (.mapUpdate t m x v)) hk (hρ m) (hρ x) (hρ v) (by
    intro b hx b' htc
    simp only [touches,hx] at htc
    intro hne; subst hne; simp at htc) hh
   exact .inl ⟨F,undef,w', ν,.junk,h', .inr ⟨by simp [h1],rfl⟩,h2,h3,by simp only [rep],h4,fun b y hb htc=>⟨h5 b y hb htc,hb⟩⟩
  case insert t m x v =>
   obtain ⟨w', h', h1,h2,h3,h4,h5⟩:=e_mapUpdate (P:=P) (tch:=touches C ρV h (.insert t m x v)) hk (hρ m) (hρ x) (hρ v) (by
    intro b hx b' htc
    simp only [touches,hx] at htc
    intro hne; subst hne; simp at htc) hh
   exact .inl ⟨F,undef,w', ν,.junk,h', .inr ⟨by simp [h1],rfl⟩,h2,h3,by simp only [rep],h4,fun b y hb htc=>⟨h5 b y hb htc,hb⟩⟩
  case mapEntry t m x =>
   exact (e_mapEntry (P:=P) (tch:=touches C ρV h (.mapEntry t m x)) hk (hρ m) (hρ x) (by
    intro b hx b' htc
    simp only [touches,hx] at htc
    intro hne; subst hne; simp at htc) hh).outc
  case entryStore t m x v =>
   obtain ⟨w', h', h1,h2,h3,h4,h5⟩:=e_entryStore (P:=P) (t:=t) (tch:=touches C ρV h (.entryStore t m x v)) hk (hρ m) (hρ x) (hρ v) (by
    intro b hx b' htc
    simp only [touches,hx] at htc
    intro hne; subst hne; simp at htc) hh
   exact .inl ⟨F,undef,w', ν,.junk,h', .inr ⟨by simp [h1],rfl⟩,h2,h3,by simp only [rep],h4,fun b y hb htc=>⟨h5 b y hb htc,hb⟩⟩
  case range t x=>exact (e_range hk (hρ x) hh).outc
  case next x s =>
   split at hh
   ·exact (e_next (P:=P) (ty:=type) (tch:=touches C ρV h (.next x false)) hk (hρ x) (by
     intro b i off hx b' htc
     simp only [touches,hx] at htc
     intro hne; subst hne; simp at htc) hh).outc
   ·exact hh.elim
  case entry x=>exact (e_entry hk (hρ x) hh).outc
  case call c =>
   obtain ⟨callee,args,argTypes⟩:=c
   cases callee with
   | invoke r m=>simp only [wCall] at hh
   | builtin b =>
    cases b <;> simp only [wCall] at hh <;> simp only [quietOp,not_true_eq_false] at hq
    case append =>
     split at hh
     ·rename_i t tx x y hts hx
      rw [onSome_iff] at hh
      obtain ⟨d,hd,hh⟩:=hh
      have hat:argTypes = #[t,tx]:=by rw [← Array.toArray_toList (xs:=argTypes),hts]
      have har:args = #[x,y]:=by rw [← Array.toArray_toList (xs:=args),hx]
      subst hat; subst har
      split at hh
      rotate_left
      ·rename_i kx
       have he:=e_appendZ (P:=P) (ty:=type) (tch:=touches C ρV h (.call { callee := .builtin .append,args := #[x,y],argTypes := #[t,tx] })) hk hd (hρ x) (hρ y) hh
       have:=he.outc (P:=P) (C:=C) (h:=h)
       simpa [resolve,invoke,builtin] using this
      ·exact hh.elim
      ·rename_i e'
       have he:=e_append (P:=P) (ty:=type) (tch:=touches C ρV h (.call { callee := .builtin .append,args := #[x,y],argTypes := #[t,tx] })) hk hd (hρ x) (hρ y) (by
        intro b lo len hx b' htc
        simp only [touches,List.map,hx] at htc
        intro hne; subst hne; simp at htc) hh
       have:=he.outc (P:=P) (C:=C) (h:=h)
       simpa [resolve,invoke,builtin] using this
     ·exact hh.elim
    case copy =>
     split at hh
     ·rename_i t ts x y hts hx
      have hat:argTypes=(t::ts).toArray:=by rw [← Array.toArray_toList (xs:=argTypes),hts]
      have har:args = #[x,y]:=by rw [← Array.toArray_toList (xs:=args),hx]
      subst hat; subst har
      have he:=e_copy (P:=P) (ts:=ts) (ty:=type) (tch:=touches C ρV h (.call { callee := .builtin .copy,args := #[x,y],argTypes:=(t::ts).toArray })) hk (hρ x) (hρ y) (by
       intro b lo len hx b' htc
       simp only [touches,List.map,hx] at htc
       intro hne; subst hne; simp at htc) hh
      have:=he.outc (P:=P) (C:=C) (h:=h)
      simpa [resolve,invoke,builtin] using this
     ·exact hh.elim
   | value f =>
    simp only [wCall] at hh
    split at hh
    ·rename_i g first caps hf
     rw [onSome_iff] at hh
     obtain ⟨fn,hfn,hh⟩:=hh
     have hr:=hρ f
     rw [hf] at hr
     simp only [rep] at hr
     obtain ⟨as,cs,hfx,ha,hc⟩:=hr
     have hargs:repL F w ν (first++args.toList.map ρV++caps) (as.toList++args.toList.map ρ++cs.toList):=repL_append (repL_append ha (repL_map hρ _)) hc
     split at hh
     ·rename_i body hbody
      rw [guardB_iff] at hh
      obtain ⟨hname,hh⟩:=hh
      have hname' : (fn.name == "runtime.NumGoroutine") = false := by simpa using hname
      have hname'' : ¬ fn.name = "runtime.NumGoroutine" := by simpa using hname
      refine .inr (.inl ⟨g,first++args.toList.map ρV++caps,as.toList++args.toList.map ρ++cs.toList,?_,hargs,?_⟩)
      ·simp [resolve,hfx,Deferred.ofValue,invoke,callFunc,hfn,hbody,hname', hname'']
      ·split at hh
       ·rename_i r hkn hvs
        rw [hvs]
        refine .inl ⟨rfl,(hC.kn g r hkn).mono' fun v hv=>⟨r,hh,fun hr=>hv ▸ hr⟩⟩
       ·rename_i hkv
        split at hh
        ·rename_i hm0
         split at hh
         ·rename_i hcl
          exact .inl ⟨hcl,hC.c0 _ _ _ (hC.mono _ _ _ _ hh fun v hv=>typedT_rep hv)⟩
         ·refine .inr ⟨_,fun b hb=>?_,hC.cf _ _ _ _ _ hh⟩
          simp only [touches,hf] at hb
          first | exact hb | (rw [hm0] at hb; exact hb)
        ·try simp only [guardB_iff] at hh
         exact .inr ⟨_,fun _ _=>rfl,hC.cb _ _ _ _ _ hh.1 hh.2⟩
        ·exact .inr ⟨_,fun _ _=>rfl,hC.ct _ _ _ _ _ hh⟩
        ·rename_i hm0 hm1
         refine .inr ⟨_,fun b hb=>?_,hC.c _ _ _ _ hh⟩
         simp only [touches,hf] at hb
         exact hb
     ·rename_i hbody
      rw [guardB_iff] at hh
      obtain ⟨x,v,h1,h2,h3⟩:=ext_sound (P:=P) hfn hbody (eq_of_beq hh.1) hargs hh.2
      refine .inl ⟨F,x,w,ν,v,h,.inl ?_,h1,hk,h2,Evo.refl ν F w,fun _ _ hb _=>⟨rfl,hb⟩⟩
      have:=h3 w
      have hea:(as.toList++args.toList.map ρ++cs.toList).toArray=as++args.map ρ++cs:=by simp
      rw [hea] at this
      simpa [resolve,hfx,Deferred.ofValue,invoke] using this
    ·rename_i b hf
     have hr:=hρ f
     rw [hf] at hr
     have hG:GlobOK C.glob F w:=hg
     obtain ⟨l,s,n,g,tmps,assign,body,hat,hrun,hround⟩:=hC.y _ _ _ _ hh ν F w (args.toList.map ρ) hk hG (repL_map hρ _)
     simp only [rep] at hr
     have hfx:=hr.2 l s n hat
     refine .inr (.inr ⟨l,g,tmps,assign,body,?_,hround.mono ?_⟩)
     ·have:(args.toList.map ρ).toArray=args.map ρ:=by rw [← Array.toList_map,Array.toArray_toList]
      rw [this] at hrun
      simpa [resolve,hfx,Deferred.ofValue,invoke] using hrun
     ·rintro e w' ⟨x,v,ν', F', h', q1,q2,q3,q4,q5,q6⟩
      exact ⟨x,v,ν', F', h', q1,q2,q3,q4,q5,fun b' y hy hb=>q6 b' y hy (by simpa [touches,hf] using hb)⟩
    ·exact hh.elim
end
end Go.Proofs.YtkkgicjioajimaaDoor.Clean
