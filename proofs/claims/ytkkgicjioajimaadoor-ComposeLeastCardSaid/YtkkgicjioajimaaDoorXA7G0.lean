/- A part of the proof. -/
import Derived.Calls
import Derived.OrdersHeld
import Derived.Laws.Cells
import Derived.Laws.Append
import Derived.Below
namespace Go.Proofs.YtkkgicjioajimaaDoor.Clean
inductive T (α:Type) where
 | e
 | n (v:Option α) (l r:T α)
noncomputable def T.get {α:Type} (t:T α) (k:Nat):Option α :=
 T.rec (motive:=fun _=>Nat→Option α) (fun _=>none) (fun v _ _ ihl ihr k=>Nat.rec (motive:=fun _=>Option α) v (fun k' _=>Bool.rec (motive:=fun _=>Option α) (ihr (k' / 2)) (ihl (k' / 2)) (Nat.beq (k' % 2) 0)) k) t k
noncomputable def T.single {α:Type} (v:Option α) (f k:Nat):T α :=
 Nat.rec (motive:=fun _=>Nat→T α) (fun _ => .e) (fun _ ih k=>Nat.rec (motive:=fun _=>T α) (.n v .e .e) (fun k' _=>Bool.rec (motive:=fun _=>T α) (.n none .e (ih (k' / 2))) (.n none (ih (k' / 2)) .e) (Nat.beq (k' % 2) 0)) k) f k
noncomputable def T.setF {α:Type} (v:Option α) (f:Nat) (t:T α) (k:Nat):T α :=
 T.rec (motive:=fun _=>Nat→T α) (fun k=>T.single v f k) (fun x l r ihl ihr k=>Nat.rec (motive:=fun _=>T α) (.n v l r) (fun k' _=>Bool.rec (motive:=fun _=>T α) (.n x l (ihr (k' / 2))) (.n x (ihl (k' / 2)) r) (Nat.beq (k' % 2) 0)) k) t k
theorem cond_beq {β:Type} (a b:Nat) (x y:β):(bif a.beq b then x else y)=if a=b then x else y:=by
 by_cases h:a=b
 ·subst h; simp
 ·have:a.beq b=false:=by
   cases hb:a.beq b
   ·rfl
   ·exact absurd (Nat.eq_of_beq_eq_true hb) h
  simp [this,h]
theorem rec_beq {β:Type} (a b:Nat) (x y:β):(Bool.rec y x (Nat.beq a b):β)=if a=b then x else y:=by
 rw [← cond_beq]
 cases Nat.beq a b <;> rfl
theorem T.get_e {α:Type} (k:Nat):(T.e:T α).get k=none:=rfl
theorem T.get_n {α:Type} (v:Option α) (l r:T α) (k:Nat):(T.n v l r).get k=if k=0 then v else if (k - 1) % 2=0 then l.get ((k - 1) / 2) else r.get ((k - 1) / 2):=by
 cases k with
 | zero=>rfl
 | succ k =>
  rw [if_neg (by omega),Nat.add_sub_cancel]
  exact rec_beq (k % 2) 0 (l.get (k / 2)) (r.get (k / 2))
theorem T.single_zero {α:Type} (v:Option α) (f:Nat):T.single v (f+1) 0 = .n v .e .e:=rfl
theorem T.single_succ {α:Type} (v:Option α) (f k:Nat):T.single v (f+1) (k+1)=if k % 2=0 then .n none (T.single v f (k / 2)) .e else .n none .e (T.single v f (k / 2)) :=
 rec_beq (k % 2) 0 (T.n none (T.single v f (k / 2)) .e) (T.n none .e (T.single v f (k / 2)))
theorem T.setF_e {α:Type} (v:Option α) (f k:Nat):T.setF v f .e k=T.single v f k:=rfl
theorem T.setF_zero {α:Type} (v x:Option α) (f:Nat) (l r:T α):T.setF v f (.n x l r) 0 = .n v l r:=rfl
theorem T.setF_succ {α:Type} (v x:Option α) (f k:Nat) (l r:T α):T.setF v f (.n x l r) (k+1)=if k % 2=0 then .n x (T.setF v f l (k / 2)) r else .n x l (T.setF v f r (k / 2)) :=
 rec_beq (k % 2) 0 (T.n x (T.setF v f l (k / 2)) r) (T.n x l (T.setF v f r (k / 2)))
theorem T.get_single {α:Type} (v:Option α) : ∀ (f k j:Nat),k+1<2 ^ f→(T.single v f k).get j=if j=k then v else none:=by
 intro f
 induction f with
 | zero=>intro k j hk; simp at hk
 | succ f ih =>
  intro k j hk
  cases k with
  | zero =>
   rw [T.single_zero,T.get_n]
   by_cases hj:j=0
   ·simp [hj]
   ·simp [hj,T.get_e]
  | succ k =>
   have hl:k / 2+1<2 ^ f:=by rw [Nat.pow_succ] at hk; omega
   rw [T.single_succ]
   by_cases hp:k % 2=0
   ·rw [if_pos hp,T.get_n]
    by_cases hj:j=0
    ·subst hj; simp
    ·rw [if_neg hj,ih _ _ hl]
     by_cases hq:(j - 1) % 2=0
     ·rw [if_pos hq]
      by_cases he:j=k+1
      ·subst he; simp
      ·rw [if_neg he,if_neg (by omega)]
     ·rw [if_neg hq,if_neg (by intro he; subst he; omega)]; rfl
   ·rw [if_neg hp,T.get_n]
    by_cases hj:j=0
    ·subst hj; simp
    ·rw [if_neg hj,ih _ _ hl]
     by_cases hq:(j - 1) % 2=0
     ·rw [if_pos hq,if_neg (by intro he; subst he; omega)]; rfl
     ·rw [if_neg hq]
      by_cases he:j=k+1
      ·subst he; simp
      ·rw [if_neg he,if_neg (by omega)]
theorem T.get_setF {α:Type} (v:Option α) (f:Nat) : ∀ (t:T α) (k j:Nat),k+1<2 ^ f→(T.setF v f t k).get j=if j=k then v else t.get j:=by
 intro t
 induction t with
 | e =>
  intro k j hk
  rw [T.setF_e,T.get_single v f k j hk]
  rfl
 | n x l r ihl ihr =>
  intro k j hk
  cases k with
  | zero =>
   rw [T.setF_zero,T.get_n,T.get_n]
   by_cases hj:j=0
   ·simp [hj]
   ·simp [hj]
  | succ k =>
   have hl:k / 2+1<2 ^ f:=by omega
   rw [T.setF_succ]
   by_cases hp:k % 2=0
   ·rw [if_pos hp,T.get_n,T.get_n]
    by_cases hj:j=0
    ·subst hj; simp
    ·rw [if_neg hj,if_neg hj,ihl _ _ hl]
     by_cases hq:(j - 1) % 2=0
     ·rw [if_pos hq,if_pos hq]
      by_cases he:j=k+1
      ·subst he; simp
      ·rw [if_neg he,if_neg (by omega)]
     ·rw [if_neg hq,if_neg hq,if_neg (by intro he; subst he; omega)]
   ·rw [if_neg hp,T.get_n,T.get_n]
    by_cases hj:j=0
    ·subst hj; simp
    ·rw [if_neg hj,if_neg hj,ihr _ _ hl]
     by_cases hq:(j - 1) % 2=0
     ·rw [if_pos hq,if_pos hq,if_neg (by intro he; subst he; omega)]
     ·rw [if_neg hq,if_neg hq]
      by_cases he:j=k+1
      ·subst he; simp
      ·rw [if_neg he,if_neg (by omega)]
noncomputable def T.map {α β:Type} (f:α→β) (t:T α):T β :=
 T.rec (motive:=fun _=>T β) .e (fun v _ _ l r => .n (v.map f) l r) t
theorem T.get_map {α β:Type} (f:α→β) : ∀ (t:T α) (k:Nat),(t.map f).get k=(t.get k).map f:=by
 intro t
 induction t with
 | e=>intro k; rfl
 | n v l r ihl ihr =>
  intro k
  show (T.n (v.map f) (l.map f) (r.map f)).get k=_
  rw [T.get_n,T.get_n]
  split
  ·rfl
  ·split
   ·exact ihl _
   ·exact ihr _
inductive Id where
 | p (n:Nat)
 | m (B k:Nat)
 deriving Inhabited,DecidableEq
instance (n:Nat):OfNat Id n:=⟨.p n⟩
def Id.beq:Id→Id→Bool
 | .p a,.p b=>a.beq b
 | .m A i,.m B k=>A.beq B&&i.beq k
 | _,_=>false
theorem Id.beq_iff {a b:Id}:a.beq b=true↔a=b:=by
 cases a <;> cases b <;> simp [Id.beq]
@[simp] theorem Id.beq_self (a:Id):a.beq a=true:=Id.beq_iff.2 rfl
theorem Id.beq_false {a b:Id} (h:a≠b):a.beq b=false:=by
 cases hb:a.beq b with
 | false=>rfl
 | true=>exact (h (Id.beq_iff.1 hb)).elim
theorem Id.cond_beq {β:Type} (a b:Id) (x y:β):(bif a.beq b then x else y)=if a=b then x else y:=by
 by_cases h:a=b
 ·subst h; simp
 ·rw [Id.beq_false h,if_neg h]; rfl
def Id.lt:Id→Nat→(Nat→Nat)→Prop
 | .p a,n,_=>a<n
 | .m B k,_,c=>k<c B
theorem Id.lt_le {b:Id} {m n:Nat} {c:Nat→Nat} (h:b.lt m c) (hl:m≤n):b.lt n c:=by
 cases b with
 | p a=>exact Nat.lt_of_lt_of_le h hl
 | m B k=>exact h
theorem Id.ne_new {b:Id} {n:Nat} {c:Nat→Nat} (h:b.lt n c):b ≠ .p n:=by
 rintro rfl
 exact absurd h (Nat.lt_irrefl n)
theorem Id.lt_new (n:Nat) (c:Nat→Nat):(Id.p n).lt (n+1) c:=Nat.lt_succ_self n
def Id.ge (n:Nat):Id→Bool
 | .p a=>Nat.ble n a
 | .m _ _=>true
inductive V where
 | raw (v:Value)
 | ptr (b:Id) (i off:Nat)
 | sl (b:Id) (lo len:Nat)
 | sla (b:Id) (i off len:Nat)
 | mp (b:Id)
 | yl (b:Id)
 | lst (s:Nat) (es:List (List V))
 | lsx (s:Nat) (es:List (List V))
 | fmp (es:List (V×V))
 | adr (cs:List V) (off:Nat)
 | agg (cs:List V)
 | tup (vs:List V)
 | fn (f:Fn) (first caps:List V)
 | junk
 deriving Inhabited
structure Nu where
 at_:Id→Option (Nat×Nat×Nat)
 nxt:Nat
 cnt:Nat→Nat
 lt : ∀ b x,at_ b=some x→b.lt nxt cnt
 ph:Id→Bool
 phx : ∀ b x,at_ b=some x→ph b=false
section
variable (F:Nat→Prop) (w:World)
mutual
def ri:V→Value→Prop
 | .raw v,x=>x=v
 | .ptr _ _ _,_=>False
 | .sl _ _ _,_=>False
 | .sla _ _ _ _,_=>False
 | .mp _,_=>False
 | .yl _,_=>False
 | .lst s es,x=>(es=[]∧x = .slice none 0 0) ∨ ∃ (a:Addr) (cap:Nat),es.length≤cap∧x = .slice (some a) es.length cap∧(es=[]∨(a.spot=none∧F a.block∧riRows a.block s es a.off))
 | .lsx s es,x=>(es=[]∧x = .slice none 0 0) ∨ ∃ (a:Addr),x = .slice (some a) es.length es.length∧(es=[]∨(a.spot=none∧F a.block∧riRows a.block s es a.off))
 | .fmp es,x => ∃ (r:Nat) (ents:Array MapEntry),x = .map (some r)∧F r∧w.heap[r]? = some (.map ents es.length)∧ents.size=es.length∧riE ents es 0
 | .adr cs off,x => ∃ b o:Nat,x = .pointer (some ⟨b,o+off,none⟩)∧F b∧riCells b cs o
 | .agg cs,x => ∃ vs:Array Value,x = .agg vs∧riL cs vs.toList
 | .tup cs,x => ∃ vs:Array Value,x = .tuple vs∧riL cs vs.toList
 | .fn f a c,x => ∃ as cs:Array Value,x = .func f as cs∧riL a as.toList∧riL c cs.toList
 | .junk,_=>True
def riL:List V→List Value→Prop
 | [],l=>l=[]
 | v::vs,l => ∃ x xs,l=x::xs∧ri v x∧riL vs xs
def riCells (b:Nat):List V→Nat→Prop
 | [],_=>True
 | v::vs,o=>(∃ x,w.cell? ⟨b,o,none⟩=some x∧x.oneCell' = true∧ri v x)∧riCells b vs (o+1)
def riRows (b s:Nat):List (List V)→Nat→Prop
 | [],_=>True
 | r::rs,o=>r.length=s∧riCells b r o∧riRows b s rs (o+s)
def riE (ents:Array MapEntry):List (V×V)→Nat→Prop
 | [],_=>True
 | (k,v)::r,i=>(∃ e:MapEntry,ents[i]? = some e∧e.born=i∧ri k e.key∧ri v e.val)∧riE ents r (i+1)
end
variable (ν:Nu)
mutual
def rep:V→Value→Prop
 | .mp b,x=>b.lt ν.nxt ν.cnt ∧ ∀ r s n,ν.at_ b=some (r,s,n)→x = .map (some r)
 | .yl b,x=>b.lt ν.nxt ν.cnt ∧ ∀ r s n,ν.at_ b=some (r,s,n)→x = .func (.yield r) #[] #[]
 | .ptr b i off,x=>(b.lt ν.nxt ν.cnt∧ν.ph b=false) ∧ ∀ r s n,ν.at_ b=some (r,s,n)→x = .pointer (some ⟨r,i * s+off,none⟩)
 | .sla b i off len,x=>(b.lt ν.nxt ν.cnt∧ν.ph b=false) ∧ ∀ r s n,ν.at_ b=some (r,s,n) → ∃ cap,len≤cap∧x = .slice (some ⟨r,i * s+off,none⟩) len cap
 | .sl b lo len,x=>(b.lt ν.nxt ν.cnt∧(ν.ph b=true→lo=0∧len=0∧x = .slice none 0 0)) ∧ ∀ r s n,ν.at_ b=some (r,s,n)→lo+len≤n ∧ ∃ cap,len≤cap∧(∃ o,(o=lo * s∨(cap=0∧lo≠0))∧x = .slice (some ⟨r,o,none⟩) len cap) ∧
   ∃ c e fr,w.heap[r]? = some (.cells c e fr)∧(lo+cap) * s≤c.size
 | .agg cs,x => ∃ vs:Array Value,x = .agg vs∧repL cs vs.toList
 | .tup cs,x => ∃ vs:Array Value,x = .tuple vs∧repL cs vs.toList
 | .fn f a c,x => ∃ as cs:Array Value,x = .func f as cs∧repL a as.toList∧repL c cs.toList
 | .raw v,x=>x=v
 | .lst s es,x=>ri F w (.lst s es) x
 | .lsx s es,x=>ri F w (.lsx s es) x
 | .adr cs off,x=>ri F w (.adr cs off) x
 | .fmp es,x=>ri F w (.fmp es) x
 | .junk,_=>True
def repL:List V→List Value→Prop
 | [],l=>l=[]
 | v::vs,l => ∃ x xs,l=x::xs∧rep v x∧repL vs xs
end
end
section
variable {F F' : Nat→Prop} {w w' : World}
mutual
theorem ri_mono (hF : ∀ b,F b→F' b) (hc : ∀ b,F b→w'.heap[b]? = w.heap[b]?) : ∀ (v:V) (x:Value),ri F w v x→ri F' w' v x
 | .raw v,x,h=>by simp only [ri] at h ⊢; exact h
 | .ptr _ _ _,_,h=>by simp only [ri] at h
 | .sl _ _ _,_,h=>by simp only [ri] at h
 | .sla _ _ _ _,_,h=>by simp only [ri] at h
 | .mp _,_,h=>by simp only [ri] at h
 | .yl _,_,h=>by simp only [ri] at h
 | .lst s es,x,h=>by
  simp only [ri] at h ⊢
  rcases h with h | ⟨a,cap,h1,h2,h3⟩
  ·exact .inl h
  ·refine .inr ⟨a,cap,h1,h2,?_⟩
   rcases h3 with h3 | ⟨h3,h4,h5⟩
   ·exact .inl h3
   ·exact .inr ⟨h3,hF _ h4,riRows_mono hF hc a.block s h4 es a.off h5⟩
 | .lsx s es,x,h=>by
  simp only [ri] at h ⊢
  rcases h with h | ⟨a,h2,h3⟩
  ·exact .inl h
  ·refine .inr ⟨a,h2,?_⟩
   rcases h3 with h3 | ⟨h3,h4,h5⟩
   ·exact .inl h3
   ·exact .inr ⟨h3,hF _ h4,riRows_mono hF hc a.block s h4 es a.off h5⟩
 | .adr cs off,x,h=>by
  simp only [ri] at h ⊢
  obtain ⟨b,o,h1,h2,h3⟩:=h
  exact ⟨b,o,h1,hF _ h2,riCells_mono hF hc b h2 cs o h3⟩
 | .fmp es,x,h=>by
  simp only [ri] at h ⊢
  obtain ⟨r,ents,h1,h2,h3,h4,h5⟩:=h
  exact ⟨r,ents,h1,hF _ h2,by rw [hc r h2]; exact h3,h4,riE_mono hF hc ents es 0 h5⟩
 | .agg cs,x,h=>by
  simp only [ri] at h ⊢
  obtain ⟨vs,h1,h2⟩:=h
  exact ⟨vs,h1,riL_mono hF hc cs _ h2⟩
 | .tup cs,x,h=>by
  simp only [ri] at h ⊢
  obtain ⟨vs,h1,h2⟩:=h
  exact ⟨vs,h1,riL_mono hF hc cs _ h2⟩
 | .fn f a c,x,h=>by
  simp only [ri] at h ⊢
  obtain ⟨as,cs,h1,h2,h3⟩:=h
  exact ⟨as,cs,h1,riL_mono hF hc a _ h2,riL_mono hF hc c _ h3⟩
 | .junk,_,_=>by simp only [ri]
theorem riL_mono (hF : ∀ b,F b→F' b) (hc : ∀ b,F b→w'.heap[b]? = w.heap[b]?) : ∀ (vs:List V) (xs:List Value),riL F w vs xs→riL F' w' vs xs
 | [],xs,h=>by simp only [riL] at h ⊢; exact h
 | v::vs,xs,h=>by
  simp only [riL] at h ⊢
  obtain ⟨x,ys,h1,h2,h3⟩:=h
  exact ⟨x,ys,h1,ri_mono hF hc v x h2,riL_mono hF hc vs ys h3⟩
theorem riCells_mono (hF : ∀ b,F b→F' b) (hc : ∀ b,F b→w'.heap[b]? = w.heap[b]?) (b:Nat) (hb:F b) : ∀ (vs:List V) (o:Nat),riCells F w b vs o→riCells F' w' b vs o
 | [],o,h=>by simp only [riCells]
 | v::vs,o,h=>by
  simp only [riCells] at h ⊢
  obtain ⟨⟨x,h1,h1', h2⟩,h3⟩:=h
  exact ⟨⟨x,by rw [show w'.cell? ⟨b,o,none⟩=w.cell? ⟨b,o,none⟩ by simp only [World.cell?,hc b hb]]; exact h1,h1', ri_mono hF hc v x h2⟩,riCells_mono hF hc b hb vs _ h3⟩
theorem riRows_mono (hF : ∀ b,F b→F' b) (hc : ∀ b,F b→w'.heap[b]? = w.heap[b]?) (b s:Nat) (hb:F b) : ∀ (es:List (List V)) (o:Nat),riRows F w b s es o→riRows F' w' b s es o
 | [],o,h=>by simp only [riRows]
 | r::rs,o,h=>by
  simp only [riRows] at h ⊢
  exact ⟨h.1,riCells_mono hF hc b hb r o h.2.1,riRows_mono hF hc b s hb rs _ h.2.2⟩
theorem riE_mono (hF : ∀ b,F b→F' b) (hc : ∀ b,F b→w'.heap[b]? = w.heap[b]?) (ents:Array MapEntry) : ∀ (es:List (V×V)) (i:Nat),riE F w ents es i→riE F' w' ents es i
 | [],i,h=>by simp only [riE]
 | (k,v)::r,i,h=>by
  simp only [riE] at h ⊢
  obtain ⟨⟨e,h1,h2,h3,h4⟩,h5⟩:=h
  exact ⟨⟨e,h1,h2,ri_mono hF hc k _ h3,ri_mono hF hc v _ h4⟩,riE_mono hF hc ents r _ h5⟩
end
end
mutual
def V.closed:V→Bool
 | .ptr _ _ _ | .sl _ _ _ | .sla _ _ _ _ | .mp _ | .yl _=>false
 | .agg cs | .tup cs=>closedL cs
 | .fn _ a c=>closedL a&&closedL c
 | .raw _ | .lst _ _ | .lsx _ _ | .fmp _ | .adr _ _ | .junk=>true
def closedL:List V→Bool
 | []=>true
 | v::vs=>v.closed&&closedL vs
end
section
variable {F:Nat→Prop} {w:World} {ν:Nu}
mutual
theorem rep_ri : ∀ (v:V) (x:Value),v.closed=true→rep F w ν v x→ri F w v x
 | .raw v,x,_,h=>by simp only [rep,ri] at h ⊢; exact h
 | .ptr _ _ _,_,hc,_=>by simp [V.closed] at hc
 | .sl _ _ _,_,hc,_=>by simp [V.closed] at hc
 | .sla _ _ _ _,_,hc,_=>by simp [V.closed] at hc
 | .mp _,_,hc,_=>by simp [V.closed] at hc
 | .yl _,_,hc,_=>by simp [V.closed] at hc
 | .lst s es,x,_,h=>by simp only [rep] at h; exact h
 | .lsx s es,x,_,h=>by simp only [rep] at h; exact h
 | .adr cs off,x,_,h=>by simp only [rep] at h; exact h
 | .fmp es,x,_,h=>by simp only [rep] at h; exact h
 | .agg cs,x,hc,h=>by
  simp only [rep,ri,V.closed] at h hc ⊢
  obtain ⟨vs,h1,h2⟩:=h
  exact ⟨vs,h1,repL_riL cs _ hc h2⟩
 | .tup cs,x,hc,h=>by
  simp only [rep,ri,V.closed] at h hc ⊢
  obtain ⟨vs,h1,h2⟩:=h
  exact ⟨vs,h1,repL_riL cs _ hc h2⟩
 | .fn f a c,x,hc,h=>by
  simp only [rep,ri,V.closed,Bool.and_eq_true] at h hc ⊢
  obtain ⟨as,cs,h1,h2,h3⟩:=h
  exact ⟨as,cs,h1,repL_riL a _ hc.1 h2,repL_riL c _ hc.2 h3⟩
 | .junk,_,_,_=>by simp only [ri]
theorem repL_riL : ∀ (vs:List V) (xs:List Value),closedL vs=true→repL F w ν vs xs→riL F w vs xs
 | [],xs,_,h=>by simp only [repL,riL] at h ⊢; exact h
 | v::vs,xs,hc,h=>by
  simp only [repL,riL,closedL,Bool.and_eq_true] at h hc ⊢
  obtain ⟨x,ys,h1,h2,h3⟩:=h
  exact ⟨x,ys,h1,rep_ri v x hc.1 h2,repL_riL vs ys hc.2 h3⟩
end
mutual
theorem ri_rep : ∀ (v:V) (x:Value),ri F w v x→rep F w ν v x
 | .raw v,x,h=>by simp only [rep,ri] at h ⊢; exact h
 | .ptr _ _ _,_,h=>by simp only [ri] at h
 | .sl _ _ _,_,h=>by simp only [ri] at h
 | .sla _ _ _ _,_,h=>by simp only [ri] at h
 | .mp _,_,h=>by simp only [ri] at h
 | .yl _,_,h=>by simp only [ri] at h
 | .lst s es,x,h=>by simp only [rep]; exact h
 | .lsx s es,x,h=>by simp only [rep]; exact h
 | .adr cs off,x,h=>by simp only [rep]; exact h
 | .fmp es,x,h=>by simp only [rep]; exact h
 | .agg cs,x,h=>by
  simp only [rep,ri] at h ⊢
  obtain ⟨vs,h1,h2⟩:=h
  exact ⟨vs,h1,riL_repL cs _ h2⟩
 | .tup cs,x,h=>by
  simp only [rep,ri] at h ⊢
  obtain ⟨vs,h1,h2⟩:=h
  exact ⟨vs,h1,riL_repL cs _ h2⟩
 | .fn f a c,x,h=>by
  simp only [rep,ri] at h ⊢
  obtain ⟨as,cs,h1,h2,h3⟩:=h
  exact ⟨as,cs,h1,riL_repL a _ h2,riL_repL c _ h3⟩
 | .junk,_,_=>by simp only [rep]
theorem riL_repL : ∀ (vs:List V) (xs:List Value),riL F w vs xs→repL F w ν vs xs
 | [],xs,h=>by simp only [repL,riL] at h ⊢; exact h
 | v::vs,xs,h=>by
  simp only [repL,riL] at h ⊢
  obtain ⟨x,ys,h1,h2,h3⟩:=h
  exact ⟨x,ys,h1,ri_rep v x h2,riL_repL vs ys h3⟩
end
end
structure Lr where
 state:LoopState
 pending:Option Code
 tm:T V
 N:Nat
 ps:Array Tmp
 assign:Code
 body:Code
 fid:Nat
instance:Inhabited Lr:=⟨⟨.ready,none,.e,0, #[],.skip,.skip,0⟩⟩
inductive O where
 | rows (s:Nat) (pure:Bool) (es:List (List V))
 | mp (es:List (V×V))
 | lp (q:Lr)
 | it (x:V) (n:Nat) (seen:List Nat)
 deriving Inhabited
structure Fam where
 s:Nat
 ms:List (Option (List (List V)))
 deriving Inhabited
def memb (ms:List (Option (List (List V)))) (k:Nat):Option (List (List V)):=(ms[k]?).join
structure Hp where
 bs:List (Nat×O)
 nxt:Nat
 fs:List (Nat×Fam)
 deriving Inhabited
def getB:List (Nat×O)→Nat→Option O
 | [],_=>none
 | (k,o)::r,b=>bif k.beq b then some o else getB r b
def delB:List (Nat×O)→Nat→List (Nat×O)
 | [],_=>[]
 | (k,o)::r,b=>bif k.beq b then delB r b else (k,o)::delB r b
def getF:List (Nat×Fam)→Nat→Option Fam
 | [],_=>none
 | (k,f)::r,b=>bif k.beq b then some f else getF r b
def setF:List (Nat×Fam)→Nat→Nat→Option (List (List V))→List (Nat×Fam)
 | [],_,_,_=>[]
 | (K,f)::r,B,k,x=>bif K.beq B then (K,⟨f.s,f.ms.set k x⟩)::r else (K,f)::setF r B k x
def Hp.get (h:Hp) (b:Id):Option O :=
 match b with
 | .p n=>getB h.bs n
 | .m B k=>match getF h.fs B with
  | some f=>(memb f.ms k).map (.rows f.s true)
  | none=>none
def Hp.add (h:Hp) (o:O):Hp:=⟨(h.nxt,o)::h.bs,h.nxt+1,h.fs⟩
def Hp.del (h:Hp) (b:Id):Hp :=
 match b with
 | .p n=>⟨delB h.bs n,h.nxt,h.fs⟩
 | .m B k=>⟨h.bs,h.nxt,setF h.fs B k none⟩
def Hp.put (h:Hp) (b:Id) (o:O):Hp :=
 match b,o with
 | .p n,o=>⟨(n,o)::delB h.bs n,h.nxt,h.fs⟩
 | .m B k,.rows _ _ es=>⟨h.bs,h.nxt,setF h.fs B k (some es)⟩
 | _,_=>h
def putOK (b:Id) (p:Bool):Bool:=match b with | .p _=>true | .m _ _=>p
theorem getF_cons (k:Nat) (f:Fam) (r:List (Nat×Fam)) (b:Nat):getF ((k,f)::r) b=if k=b then some f else getF r b:=by rw [getF,cond_beq]
theorem setF_cons (K:Nat) (f:Fam) (r:List (Nat×Fam)) (B k:Nat) (x:Option (List (List V))):setF ((K,f)::r) B k x=if K=B then (K,⟨f.s,f.ms.set k x⟩)::r else (K,f)::setF r B k x:=by rw [setF,cond_beq]
theorem getF_setF (B k:Nat) (x:Option (List (List V))) (B' : Nat) : ∀ (l:List (Nat×Fam)),getF (setF l B k x) B' = if B' = B then (getF l B).map (fun f=>⟨f.s,f.ms.set k x⟩) else getF l B'
 | []=>by simp [setF,getF]
 | (K,f)::r=>by
  rw [setF_cons]
  by_cases hK:K=B
  ·subst hK
   rw [if_pos rfl,getF_cons,getF_cons,getF_cons,if_pos rfl]
   by_cases hB:B' = K
   ·subst hB; simp
   ·rw [if_neg hB,if_neg (by omega),if_neg (by omega)]
  ·rw [if_neg hK,getF_cons,getF_cons,getF_cons,getF_setF B k x B' r,if_neg hK]
   by_cases hB:B' = B
   ·subst hB; rw [if_pos rfl,if_neg hK]; simp
   ·rw [if_neg hB]; simp [hB]
theorem memb_set (ms:List (Option (List (List V)))) (k:Nat) (x:Option (List (List V))) (j:Nat) (hk:k<ms.length):memb (ms.set k x) j=if j=k then x else memb ms j:=by
 unfold memb
 rw [List.getElem?_set]
 by_cases h:k=j
 ·subst h; simp [hk]
 ·rw [if_neg h,if_neg (by omega)]
theorem memb_lt {ms:List (Option (List (List V)))} {k:Nat} {es:List (List V)} (h:memb ms k=some es):k<ms.length:=by
 unfold memb at h
 rw [Option.join_eq_some_iff] at h
 exact (List.getElem?_eq_some_iff.1 h).1
theorem getB_cons (k:Nat) (o:O) (r:List (Nat×O)) (b:Nat):getB ((k,o)::r) b=if k=b then some o else getB r b:=by rw [getB,cond_beq]
theorem delB_cons (k:Nat) (o:O) (r:List (Nat×O)) (b:Nat):delB ((k,o)::r) b=if k=b then delB r b else (k,o)::delB r b:=by rw [delB,cond_beq]
theorem getB_delB (b j:Nat) : ∀ (l:List (Nat×O)),getB (delB l b) j=if j=b then none else getB l j
 | []=>by simp [delB,getB]
 | (k,o)::r=>by
  rw [delB_cons,getB_cons]
  by_cases hk:k=b
  ·rw [if_pos hk,getB_delB b j r]
   by_cases hj:j=b
   ·simp [hj]
   ·rw [if_neg hj,if_neg hj,if_neg (by omega)]
  ·rw [if_neg hk,getB_cons,getB_delB b j r]
   by_cases hj:j=b
   ·subst hj; simp [hk]
   ·rw [if_neg hj,if_neg hj]
def cellsC (R:V→Value→Prop) (c:Array Value):List V→Nat→Prop
 | [],_=>True
 | v::vs,o=>(∃ x,c[o]? = some x∧x.oneCell' = true∧R v x)∧cellsC R c vs (o+1)
def rowsC (R:V→Value→Prop) (c:Array Value) (s:Nat):List (List V)→Nat→Prop
 | [],_=>True
 | r::rs,o=>r.length=s∧cellsC R c r o∧rowsC R c s rs (o+s)
theorem cellsC_iff {R:V→Value→Prop} {c:Array Value} : ∀ {vs:List V} {o:Nat},cellsC R c vs o ↔ ∀ j v,vs[j]? = some v → ∃ x,c[o+j]? = some x∧x.oneCell' = true∧R v x
 | [],o=>by simp [cellsC]
 | v::vs,o=>by
  rw [cellsC,cellsC_iff]
  constructor
  ·rintro ⟨h1,h2⟩ j u hj
   cases j with
   | zero=>simp at hj; subst hj; exact h1
   | succ j=>simp at hj; have:=h2 j u hj; rwa [show o+1+j=o+(j+1) by omega] at this
  ·intro h
   refine ⟨h 0 v rfl,fun j u hj=>?_⟩
   have:=h (j+1) u (by simpa using hj)
   rwa [show o+(j+1)=o+1+j by omega] at this
theorem rowsC_iff {R:V→Value→Prop} {c:Array Value} {s:Nat} : ∀ {es:List (List V)} {o:Nat},rowsC R c s es o ↔
  ∀ i r,es[i]? = some r→r.length=s ∧ ∀ j v,r[j]? = some v → ∃ x,c[o+i * s+j]? = some x∧x.oneCell' = true∧R v x
 | [],o=>by simp [rowsC]
 | r::rs,o=>by
  rw [rowsC,rowsC_iff,cellsC_iff]
  constructor
  ·rintro ⟨h0,h1,h2⟩ i u hi
   cases i with
   | zero=>simp at hi; subst hi; simpa using ⟨h0,h1⟩
   | succ i =>
    simp at hi
    have:=h2 i u hi
    rwa [show o+s+i * s=o+(i+1) * s by rw [Nat.add_mul]; omega] at this
  ·intro h
   have h0:=h 0 r rfl
   refine ⟨h0.1,by simpa using h0.2,fun i u hi=>?_⟩
   have:=h (i+1) u (by simpa using hi)
   rwa [show o+(i+1) * s=o+s+i * s by rw [Nat.add_mul]; omega] at this
section
variable {F:Nat→Prop} {w:World}
theorem riCells_iff {b:Nat} : ∀ {vs:List V} {o:Nat},riCells F w b vs o ↔ ∀ j v,vs[j]? = some v → ∃ x,w.cell? ⟨b,o+j,none⟩=some x∧x.oneCell' = true∧ri F w v x
 | [],o=>by simp [riCells]
 | v::vs,o=>by
  rw [riCells,riCells_iff]
  constructor
  ·rintro ⟨h1,h2⟩ j u hj
   cases j with
   | zero=>simp at hj; subst hj; exact h1
   | succ j=>simp at hj; have:=h2 j u hj; rwa [show o+1+j=o+(j+1) by omega] at this
  ·intro h
   refine ⟨h 0 v rfl,fun j u hj=>?_⟩
   have:=h (j+1) u (by simpa using hj)
   rwa [show o+(j+1)=o+1+j by omega] at this
theorem riRows_iff {b s:Nat} : ∀ {es:List (List V)} {o:Nat},riRows F w b s es o ↔
  ∀ i r,es[i]? = some r→r.length=s ∧ ∀ j v,r[j]? = some v → ∃ x,w.cell? ⟨b,o+i * s+j,none⟩=some x∧x.oneCell' = true∧ri F w v x
 | [],o=>by simp [riRows]
 | r::rs,o=>by
  rw [riRows,riRows_iff,riCells_iff]
  constructor
  ·rintro ⟨h0,h1,h2⟩ i u hi
   cases i with
   | zero=>simp at hi; subst hi; simpa using ⟨h0,h1⟩
   | succ i =>
    simp at hi
    have:=h2 i u hi
    rwa [show o+s+i * s=o+(i+1) * s by rw [Nat.add_mul]; omega] at this
  ·intro h
   have h0:=h 0 r rfl
   refine ⟨h0.1,by simpa using h0.2,fun i u hi=>?_⟩
   have:=h (i+1) u (by simpa using hi)
   rwa [show o+(i+1) * s=o+s+i * s by rw [Nat.add_mul]; omega] at this
end
theorem riE_iff {F:Nat→Prop} {w:World} {ents:Array MapEntry} : ∀ {es:List (V×V)} {o:Nat},riE F w ents es o ↔ ∀ i kv,es[i]? = some kv → ∃ e:MapEntry,ents[o+i]? = some e∧e.born=o+i∧ri F w kv.1 e.key∧ri F w kv.2 e.val
 | [],o=>by simp [riE]
 | (k,v)::r,o=>by
  rw [riE,riE_iff]
  constructor
  ·rintro ⟨h1,h2⟩ i kv hi
   cases i with
   | zero=>simp at hi; subst hi; exact h1
   | succ i=>simp at hi; have:=h2 i kv hi; rwa [show o+1+i=o+(i+1) by omega] at this
  ·intro h
   refine ⟨h 0 (k,v) rfl,fun i kv hi=>?_⟩
   have:=h (i+1) kv (by simpa using hi)
   rwa [show o+(i+1)=o+1+i by omega] at this
def Nu.own (ν:Nu) (r:Nat):Prop := ∃ b s n,ν.at_ b=some (r,s,n)
structure Evo (ν:Nu) (F:Nat→Prop) (w:World) (ν' : Nu) (F' : Nat→Prop) (w' : World):Prop where
 os:w'.os=w.os
 tape:w'.tape=w.tape
 output:w'.output=w.output
 size:w.heap.size≤w'.heap.size
 old : ∀ r,r<w.heap.size → ¬ ν.own r→w'.heap[r]? = w.heap[r]?
 fmono : ∀ r,F r→F' r
 fnew : ∀ r,F' r→F r∨ν.own r∨w.heap.size≤r
 onew : ∀ r,ν'.own r→ν.own r∨w.heap.size≤r
 keep : ∀ b x,b.lt ν.nxt ν.cnt→ν'.at_ b=some x→ν.at_ b=some x
 nxt:ν.nxt≤ν'.nxt
 cnt : ∀ B,ν.cnt B≤ν'.cnt B
 kph : ∀ b,b.lt ν.nxt ν.cnt→ν'.ph b=true→ν.ph b=true
 len : ∀ b r s n,ν.at_ b=some (r,s,n)→ν'.at_ b=some (r,s,n) → ∀ c e fr,w.heap[r]? = some (.cells c e fr) → ∃ c', w'.heap[r]? = some (.cells c' e fr)∧c'.size=c.size
 drawn:w.drawn≤w'.drawn:=by first | exact Nat.le_refl _ | exact Nat.le_succ _ | assumption | (simp; done) | omega
structure BelowD (B:Nat) (w w' : World):Prop extends Go.RowKit.Below B w w' where
 drawn:w.drawn≤w'.drawn:=by first | exact Nat.le_refl _ | exact Nat.le_succ _ | assumption | (simp; done) | omega
theorem Evo.refl (ν:Nu) (F:Nat→Prop) (w:World):Evo ν F w ν F w :=
 ⟨rfl,rfl,rfl,Nat.le_refl _,fun _ _ _=>rfl,fun _ h=>h,fun _ h => .inl h,fun _ h => .inl h,fun _ _ _ h=>h,Nat.le_refl _,fun _=>Nat.le_refl _,fun _ _ h=>h,fun _ _ _ _ _ _ c _ _ h=>⟨c,h,rfl⟩,by first | exact Nat.le_refl _ | exact Nat.le_succ _ | assumption | (simp; done) | omega⟩
theorem Evo.lt {ν:Nu} {F:Nat→Prop} {w:World} {ν' : Nu} {F' : Nat→Prop} {w' : World} (e:Evo ν F w ν' F' w') {b:Id} (h:b.lt ν.nxt ν.cnt):b.lt ν'.nxt ν'.cnt:=by
 cases b with
 | p a=>exact Nat.lt_of_lt_of_le h e.nxt
 | m B k=>exact Nat.lt_of_lt_of_le h (e.cnt B)
theorem Evo.trans {ν:Nu} {F:Nat→Prop} {w:World} {ν' : Nu} {F' : Nat→Prop} {w' : World} {ν'' : Nu} {F'' : Nat→Prop} {w'' : World}
  (h:Evo ν F w ν' F' w') (k:Evo ν' F' w' ν'' F'' w''):Evo ν F w ν'' F'' w'' where
 os:=k.os.trans h.os
 tape:=k.tape.trans h.tape
 output:=k.output.trans h.output
 size:=Nat.le_trans h.size k.size
 old r hr ho:=by
  rw [k.old r (Nat.lt_of_lt_of_le hr h.size) (fun h' => (h.onew r h').elim ho (fun h'' => absurd hr (by omega)))]
  exact h.old r hr ho
 fmono r hr:=k.fmono r (h.fmono r hr)
 fnew r hr:=by
  rcases k.fnew r hr with h1 | h1 | h1
  ·exact h.fnew r h1
  ·exact (h.onew r h1).elim (fun h => .inr (.inl h)) (fun h => .inr (.inr h))
  ·exact .inr (.inr (Nat.le_trans h.size h1))
 onew r hr:=by
  rcases k.onew r hr with h1 | h1
  ·exact h.onew r h1
  ·exact .inr (Nat.le_trans h.size h1)
 keep b x hb hx:=h.keep b x hb (k.keep b x (h.lt hb) hx)
 nxt:=Nat.le_trans h.nxt k.nxt
 cnt B:=Nat.le_trans (h.cnt B) (k.cnt B)
 kph b hb hx:=h.kph b hb (k.kph b (h.lt hb) hx)
 len b r s n hb hb'' c e fr hc:=by
  have hb' := k.keep b _ (h.lt (ν.lt b _ hb)) hb''
  obtain ⟨c', hc', hs'⟩:=h.len b r s n hb hb' c e fr hc
  obtain ⟨c'', hc'', hs''⟩:=k.len b r s n hb' hb'' c' e fr hc'
  exact ⟨c'', hc'', hs''.trans hs'⟩
 drawn:=Nat.le_trans h.drawn k.drawn
def repO (F:Nat→Prop) (w:World) (ν:Nu) (p:Bool):V→Value→Prop:=if p then ri F w else rep F w ν
def entsOK (R:V→Value→Prop) (es:List (V×V)) (ents:Array MapEntry):Prop :=
 ents.size=es.length ∧ ∀ (i:Nat) (kv:V×V),es[i]? = some kv → ∃ e:MapEntry,ents[i]? = some e∧e.born=i∧R kv.1 e.key∧R kv.2 e.val
structure lrOK (R:V→Value→Prop) (q:Lr) (rec:Loop):Prop where
 state:rec.state=q.state
 pending:rec.pending=q.pending
 size:rec.tmps.size=q.N
 ps:rec.params=q.ps
 assign:rec.assign=q.assign
 body:rec.body=q.body
 slot : ∀ t v,q.tm.get t=some v → ∃ x,rec.tmps[t]? = some x∧R v x
theorem lrOK.mono {R R' : V→Value→Prop} {q:Lr} {rec:Loop} (h:lrOK R q rec) (hr : ∀ v x,R v x→R' v x):lrOK R' q rec :=
 { h with slot:=fun t v ht=>let ⟨x,h1,h2⟩:=h.slot t v ht; ⟨x,h1,hr v x h2⟩ }
noncomputable def Lr.mapV (f:V→V) (q:Lr):Lr:={ q with tm:=q.tm.map f }
theorem lrOK.map {R R' : V→Value→Prop} {q:Lr} {rec:Loop} {f:V→V} (h:lrOK R q rec) (hr : ∀ v x,R v x→R' (f v) x):lrOK R' (q.mapV f) rec :=
 ⟨h.state,h.pending,h.size,h.ps,h.assign,h.body,fun t v ht=>by
  have ht:(q.tm.map f).get t=some v:=ht
  rw [T.get_map,Option.map_eq_some_iff] at ht
  obtain ⟨v0,h0,rfl⟩:=ht
  obtain ⟨x,h1,h2⟩:=h.slot t v0 h0
  exact ⟨x,h1,hr v0 x h2⟩⟩
def Obl (F:Nat→Prop) (w:World) (ν:Nu) (r s n:Nat):O→Prop
 | .rows s' p es=>s' = s∧es.length=n ∧ ∃ c e,w.heap[r]? = some (.cells c e (0,0))∧n * s≤c.size∧rowsC (repO F w ν p) c s es 0
 | .mp es => ∃ ents,w.heap[r]? = some (.map ents es.length)∧entsOK (rep F w ν) es ents
 | .lp q => ∃ rec:Loop,w.heap[r]? = some (.loop rec)∧lrOK (rep F w ν) q rec
 | .it x n seen => ∃ mr,w.heap[r]? = some (.mapIter mr n seen.toArray n)∧rep F w ν x (.map mr)
def famLen (fs:List (Nat×Fam)) (B:Nat):Nat:=match getF fs B with | some f=>f.ms.length | none=>0
structure HeapOK (ν:Nu) (F:Nat→Prop) (h:Hp) (w:World):Prop where
 blk : ∀ b r s n,ν.at_ b=some (r,s,n) → ∃ o,h.get b=some o∧Obl F w ν r s n o
 dom : ∀ b o,h.get b=some o→(∃ x,ν.at_ b=some x)∨(ν.ph b=true ∧ ∃ s p,o = .rows s p [])
 inj : ∀ b b' r s n s' n', ν.at_ b=some (r,s,n)→ν.at_ b' = some (r,s', n')→b=b'
 frz : ∀ r,F r→r<w.heap.size ∧ ¬ ν.own r
 nxt:ν.nxt=h.nxt
 cnt : ∀ B,ν.cnt B=famLen h.fs B
theorem lt_of_some {α:Type} {a:Array α} {i:Nat} {x:α} (h:a[i]? = some x):i<a.size:=(Array.getElem?_eq_some_iff.1 h).1
theorem HeapOK.domP {ν:Nu} {F:Nat→Prop} {h:Hp} {w:World} (k:HeapOK ν F h w) (b:Id) (o:O) (hb:h.get b=some o) (hp:ν.ph b=false) : ∃ x,ν.at_ b=some x:=by
 rcases k.dom b o hb with h | ⟨h,_⟩
 ·exact h
 ·rw [hp] at h; cases h
theorem HeapOK.blkR {ν:Nu} {F:Nat→Prop} {h:Hp} {w:World} (k:HeapOK ν F h w) {b:Id} {r s n s' : Nat} {p:Bool} {es:List (List V)} (hb:h.get b=some (.rows s p es)) (hat:ν.at_ b=some (r,s', n)) :
  s=s' ∧ es.length=n ∧ ∃ c e,w.heap[r]? = some (.cells c e (0,0))∧n * s≤c.size∧rowsC (repO F w ν p) c s es 0:=by
 obtain ⟨o,g1,g2⟩:=k.blk b r s' n hat
 rw [hb] at g1
 simp at g1
 subst g1
 obtain ⟨rfl,g3⟩:=g2
 exact ⟨rfl,g3⟩
theorem HeapOK.blkM {ν:Nu} {F:Nat→Prop} {h:Hp} {w:World} (k:HeapOK ν F h w) {b:Id} {es:List (V×V)} (hb:h.get b=some (.mp es)) :
  ∃ r s n ents,ν.at_ b=some (r,s,n)∧w.heap[r]? = some (.map ents es.length)∧entsOK (rep F w ν) es ents:=by
 rcases k.dom b _ hb with ⟨⟨r,s,n⟩,hat⟩ | ⟨_,_,_,h⟩
 ·obtain ⟨o,g1,g2⟩:=k.blk b r s n hat
  rw [hb] at g1
  simp at g1
  subst g1
  obtain ⟨ents,g3⟩:=g2
  exact ⟨r,s,n,ents,hat,g3⟩
 ·cases h
theorem HeapOK.at_lt {ν:Nu} {F:Nat→Prop} {h:Hp} {w:World} (k:HeapOK ν F h w) {b:Id} {r s n:Nat} (hat:ν.at_ b=some (r,s,n)):r<w.heap.size:=by
 obtain ⟨o,_,g⟩:=k.blk b r s n hat
 cases o with
 | rows s' p es=>obtain ⟨_,_,c,e,g,_⟩:=g; exact lt_of_some g
 | mp es=>obtain ⟨ents,g,_⟩:=g; exact lt_of_some g
 | lp q=>obtain ⟨rec,g,_⟩:=g; exact lt_of_some g
 | it x n seen=>obtain ⟨mr,g,_⟩:=g; exact lt_of_some g
theorem HeapOK.own_lt {ν:Nu} {F:Nat→Prop} {h:Hp} {w:World} (k:HeapOK ν F h w) {r:Nat} (ho:ν.own r):r<w.heap.size:=by
 obtain ⟨b,s,n,hat⟩:=ho
 exact k.at_lt hat
theorem cell_heap {w w' : World} {a:Addr} (h:w'.heap[a.block]? = w.heap[a.block]?):w'.cell? a=w.cell? a:=by simp only [World.cell?,h]
section
variable {ν:Nu} {F:Nat→Prop} {w:World} {ν' : Nu} {F' : Nat→Prop} {w' : World} {h:Hp}
theorem HeapOK.riEvo (k:HeapOK ν F h w) (e:Evo ν F w ν' F' w') {v:V} {x:Value} (hr:ri F w v x):ri F' w' v x :=
 ri_mono e.fmono (fun b hb=>e.old b (k.frz b hb).1 (k.frz b hb).2) v x hr
structure EvoW (ν:Nu) (F:Nat→Prop) (w:World) (ν' : Nu) (F' : Nat→Prop) (w' : World):Prop where
 lt : ∀ {b:Id},b.lt ν.nxt ν.cnt→b.lt ν'.nxt ν'.cnt
 keep : ∀ b x,b.lt ν.nxt ν.cnt→ν'.at_ b=some x→ν.at_ b=some x
 kph : ∀ b,b.lt ν.nxt ν.cnt→ν'.ph b=true→ν.ph b=true
 len : ∀ b r s n,ν.at_ b=some (r,s,n) → ∀ c e fr,ν'.at_ b=some (r,s,n)→w.heap[r]? = some (.cells c e fr) → ∃ c', w'.heap[r]? = some (.cells c' e fr)∧c'.size=c.size
 ri : ∀ (v:V) (x:Value),Go.Proofs.YtkkgicjioajimaaDoor.Clean.ri F w v x→Go.Proofs.YtkkgicjioajimaaDoor.Clean.ri F' w' v x
theorem Evo.toW (k:HeapOK ν F h w) (e:Evo ν F w ν' F' w'):EvoW ν F w ν' F' w' :=
 ⟨e.lt,e.keep,e.kph,fun b r s n h1 c el fr h2=>e.len b r s n h1 h2 c el fr,fun _ _ hr=>k.riEvo e hr⟩
mutual
theorem rep_evoW (e:EvoW ν F w ν' F' w') : ∀ (v:V) (x:Value),rep F w ν v x→rep F' w' ν' v x
 | .raw v,x,h=>by simp only [rep] at h ⊢; exact h
 | .ptr b i off,x,hr=>by
  simp only [rep] at hr ⊢
  refine ⟨⟨e.lt hr.1.1,?_⟩,fun r s n hb=>hr.2 r s n (e.keep b _ hr.1.1 hb)⟩
  cases hq:ν'.ph b with
  | false=>rfl
  | true=>have:=e.kph b hr.1.1 hq; rw [hr.1.2] at this; cases this
 | .sla b i off len,x,hr=>by
  simp only [rep] at hr ⊢
  refine ⟨⟨e.lt hr.1.1,?_⟩,fun r s n hb=>hr.2 r s n (e.keep b _ hr.1.1 hb)⟩
  cases hq:ν'.ph b with
  | false=>rfl
  | true=>have:=e.kph b hr.1.1 hq; rw [hr.1.2] at this; cases this
 | .sl b lo len,x,hr=>by
  simp only [rep] at hr ⊢
  refine ⟨⟨e.lt hr.1.1,fun hq=>hr.1.2 (e.kph b hr.1.1 hq)⟩,fun r s n hb=>?_⟩
  have hb0:=e.keep b _ hr.1.1 hb
  obtain ⟨h1,cap,h2,h3,c,el,fr,h4,h5⟩:=hr.2 r s n hb0
  obtain ⟨c', h6,h7⟩:=e.len b r s n hb0 c el fr hb h4
  exact ⟨h1,cap,h2,h3,c', el,fr,h6,by rw [h7]; exact h5⟩
 | .mp b,x,hr=>by
  simp only [rep] at hr ⊢
  exact ⟨e.lt hr.1,fun r s n hb=>hr.2 r s n (e.keep b _ hr.1 hb)⟩
 | .yl b,x,hr=>by
  simp only [rep] at hr ⊢
  exact ⟨e.lt hr.1,fun r s n hb=>hr.2 r s n (e.keep b _ hr.1 hb)⟩
 | .lst s es,x,hr=>by simp only [rep] at hr ⊢; exact e.ri _ _ hr
 | .lsx s es,x,hr=>by simp only [rep] at hr ⊢; exact e.ri _ _ hr
 | .adr cs off,x,hr=>by simp only [rep] at hr ⊢; exact e.ri _ _ hr
 | .fmp es,x,hr=>by simp only [rep] at hr ⊢; exact e.ri _ _ hr
 | .agg cs,x,hr=>by
  simp only [rep] at hr ⊢
  obtain ⟨vs,h1,h2⟩:=hr
  exact ⟨vs,h1,repL_evoW e cs _ h2⟩
 | .tup cs,x,hr=>by
  simp only [rep] at hr ⊢
  obtain ⟨vs,h1,h2⟩:=hr
  exact ⟨vs,h1,repL_evoW e cs _ h2⟩
 | .fn f a c,x,hr=>by
  simp only [rep] at hr ⊢
  obtain ⟨as,cs,h1,h2,h3⟩:=hr
  exact ⟨as,cs,h1,repL_evoW e a _ h2,repL_evoW e c _ h3⟩
 | .junk,_,_=>by simp only [rep]
theorem repL_evoW (e:EvoW ν F w ν' F' w') : ∀ (vs:List V) (xs:List Value),repL F w ν vs xs→repL F' w' ν' vs xs
 | [],xs,hr=>by simp only [repL] at hr ⊢; exact hr
 | v::vs,xs,hr=>by
  simp only [repL] at hr ⊢
  obtain ⟨x,ys,h1,h2,h3⟩:=hr
  exact ⟨x,ys,h1,rep_evoW e v x h2,repL_evoW e vs ys h3⟩
end
theorem rep_evo (k:HeapOK ν F h w) (e:Evo ν F w ν' F' w') (v:V) (x:Value) (hr:rep F w ν v x):rep F' w' ν' v x:=rep_evoW (e.toW k) v x hr
theorem repL_evo (k:HeapOK ν F h w) (e:Evo ν F w ν' F' w') (vs:List V) (xs:List Value) (hr:repL F w ν vs xs):repL F' w' ν' vs xs:=repL_evoW (e.toW k) vs xs hr
theorem repO_evoW (e:EvoW ν F w ν' F' w') {p:Bool} {v:V} {x:Value} (hr:repO F w ν p v x):repO F' w' ν' p v x:=by
 unfold repO at *
 cases p
 ·exact rep_evoW e v x hr
 ·exact e.ri _ _ hr
theorem repO_evo (k:HeapOK ν F h w) (e:Evo ν F w ν' F' w') {p:Bool} {v:V} {x:Value} (hr:repO F w ν p v x):repO F' w' ν' p v x:=by
 unfold repO at *
 cases p
 ·exact rep_evo k e v x hr
 ·exact k.riEvo e hr
theorem repO_rep {p:Bool} {v:V} {x:Value} (hr:repO F w ν p v x):rep F w ν v x:=by
 unfold repO at *
 cases p
 ·exact hr
 ·exact ri_rep v x hr
theorem repO_and {p q:Bool} {v:V} {x:Value} (hr:repO F w ν p v x):repO F w ν (p&&q) v x:=by
 cases q
 ·rw [Bool.and_false]; exact repO_rep hr
 ·rw [Bool.and_true]; exact hr
theorem repO_of {p:Bool} {v:V} {x:Value} (hr:rep F w ν v x) (hc:p=true→v.closed=true):repO F w ν p v x:=by
 unfold repO
 cases p
 ·exact hr
 ·exact rep_ri v x (hc rfl) hr
end
end Go.Proofs.YtkkgicjioajimaaDoor.Clean
namespace Go.Proofs.YtkkgicjioajimaaDoor.Clean
def Nu.add (ν:Nu) (r s n:Nat):Nu where
 at_ b:=if b = .p ν.nxt then some (r,s,n) else ν.at_ b
 nxt:=ν.nxt+1
 cnt:=ν.cnt
 lt b x h:=by
  by_cases hb:b = .p ν.nxt
  ·subst hb; exact Id.lt_new _ _
  ·simp only [hb,if_false] at h; exact Id.lt_le (ν.lt b x h) (Nat.le_succ _)
 ph b:=if b = .p ν.nxt then false else ν.ph b
 phx b x h:=by
  by_cases hb:b = .p ν.nxt
  ·rw [if_pos hb]
  ·simp only [hb,if_false] at h ⊢; exact ν.phx b x h
def Nu.addPh (ν:Nu):Nu where
 at_ b:=if b = .p ν.nxt then none else ν.at_ b
 nxt:=ν.nxt+1
 cnt:=ν.cnt
 lt b x h:=by
  by_cases hb:b = .p ν.nxt
  ·simp [hb] at h
  ·simp only [hb,if_false] at h; exact Id.lt_le (ν.lt b x h) (Nat.le_succ _)
 ph b:=if b = .p ν.nxt then true else ν.ph b
 phx b x h:=by
  by_cases hb:b = .p ν.nxt
  ·simp [hb] at h
  ·simp only [hb,if_false] at h ⊢; exact ν.phx b x h
def Nu.del (ν:Nu) (b:Id):Nu where
 at_ j:=if j=b then none else ν.at_ j
 nxt:=ν.nxt
 cnt:=ν.cnt
 lt j x h:=by
  by_cases hb:j=b
  ·simp [hb] at h
  ·simp only [hb,if_false] at h; exact ν.lt j x h
 ph j:=if j=b then false else ν.ph j
 phx j x h:=by
  by_cases hb:j=b
  ·rw [if_pos hb]
  ·simp only [hb,if_false] at h ⊢; exact ν.phx j x h
theorem Hp.get_add (h:Hp) (o:O) (b:Id):(h.add o).get b=if b = .p h.nxt then some o else h.get b:=by
 cases b with
 | p n =>
  simp only [Hp.get,Hp.add,getB_cons,Id.p.injEq]
  by_cases hb:n=h.nxt
  ·simp [hb]
  ·rw [if_neg (by omega),if_neg hb]
 | m B k=>simp [Hp.get,Hp.add]
@[simp] theorem Hp.del_nxt (h:Hp) (b:Id):(h.del b).nxt=h.nxt:=by cases b <;> rfl
theorem Hp.get_m {h:Hp} {B k:Nat} {o:O} (hg:h.get (.m B k)=some o) : ∃ f es,getF h.fs B=some f∧memb f.ms k=some es∧o = .rows f.s true es:=by
 simp only [Hp.get] at hg
 split at hg
 ·rename_i f hf
  rw [Option.map_eq_some_iff] at hg
  obtain ⟨es,h1,h2⟩:=hg
  exact ⟨f,es,hf,h1,h2.symm⟩
 ·cases hg
theorem Hp.get_del (h:Hp) (b j:Id):(h.del b).get j=if j=b then none else h.get j:=by
 cases b with
 | p b =>
  cases j with
  | p j=>simp only [Hp.get,Hp.del,getB_delB,Id.p.injEq]
  | m B k=>simp [Hp.get,Hp.del]
 | m B k =>
  cases j with
  | p j=>simp [Hp.get,Hp.del]
  | m B' k' =>
   simp only [Hp.get,Hp.del,getF_setF,Id.m.injEq]
   by_cases hB:B' = B
   ·subst hB
    simp only [if_true,true_and]
    cases hf:getF h.fs B' with
    | none=>simp
    | some f =>
     simp only [Option.map_some]
     by_cases hk:k<f.ms.length
     ·rw [memb_set _ _ _ _ hk]
      by_cases hkk:k' = k
      ·simp [hkk]
      ·simp [hkk]
     ·have e1:f.ms.set k none=f.ms:=List.set_eq_of_length_le (by omega)
      rw [e1]
      by_cases hkk:k' = k
      ·subst hkk
       have:memb f.ms k' = none:=by simp [memb,List.getElem?_eq_none (show f.ms.length≤k' by omega)]
       simp [this]
      ·simp [hkk]
   ·simp [hB]
theorem Hp.get_put {h:Hp} {b:Id} {s:Nat} {p:Bool} {es0:List (List V)} {p0:Bool} (hb:h.get b=some (.rows s p0 es0)) (hp:putOK b p=true) (es:List (List V)) (j:Id):(h.put b (.rows s p es)).get j=if j=b then some (.rows s p es) else h.get j:=by
 cases b with
 | p b =>
  cases j with
  | p j =>
   simp only [Hp.get,Hp.put,getB_cons,getB_delB,Id.p.injEq]
   by_cases hb:j=b
   ·simp [hb]
   ·rw [if_neg (by omega),if_neg hb,if_neg hb]
  | m B k=>simp [Hp.get,Hp.put]
 | m B k =>
  obtain ⟨f,es1,hf,hm,he⟩:=Hp.get_m hb
  simp at he
  obtain ⟨rfl,rfl,rfl⟩:=he
  simp only [putOK] at hp
  subst hp
  cases j with
  | p j=>simp [Hp.get,Hp.put]
  | m B' k' =>
   simp only [Hp.get,Hp.put,getF_setF,Id.m.injEq]
   by_cases hB:B' = B
   ·subst hB
    simp only [if_true,true_and,hf,Option.map_some]
    rw [memb_set _ _ _ _ (memb_lt hm)]
    by_cases hkk:k' = k
    ·simp [hkk]
    ·simp [hkk]
   ·simp [hB]
theorem Hp.get_putM (h:Hp) (b:Nat) (es:List (V×V)) (j:Id):(h.put (.p b) (.mp es)).get j=if j = .p b then some (.mp es) else h.get j:=by
 cases j with
 | p j =>
  simp only [Hp.get,Hp.put,getB_cons,getB_delB,Id.p.injEq]
  by_cases hb:j=b
  ·simp [hb]
  ·rw [if_neg (by omega),if_neg hb,if_neg hb]
 | m B k=>simp [Hp.get,Hp.put]
section
variable {ν:Nu} {F:Nat→Prop} {w w' : World} {h:Hp}
theorem rowsC_evo {F' : Nat→Prop} {ν' : Nu} (k:HeapOK ν F h w) (e:Evo ν F w ν' F' w') {p:Bool} {c:Array Value} {s:Nat} {es:List (List V)} {o:Nat}
  (hr:rowsC (repO F w ν p) c s es o):rowsC (repO F' w' ν' p) c s es o:=by
 rw [rowsC_iff] at hr ⊢
 intro i r hi
 obtain ⟨h1,h2⟩:=hr i r hi
 exact ⟨h1,fun j v hj=>let ⟨x,h3,h4,h5⟩:=h2 j v hj; ⟨x,h3,h4,repO_evo k e h5⟩⟩
theorem entsOK_evoW {F' : Nat→Prop} {ν' : Nu} (e:EvoW ν F w ν' F' w') {es:List (V×V)} {ents:Array MapEntry} (hr:entsOK (rep F w ν) es ents):entsOK (rep F' w' ν') es ents :=
 ⟨hr.1,fun i kv hi=>let ⟨x,h1,h2,h3,h4⟩:=hr.2 i kv hi; ⟨x,h1,h2,rep_evoW e _ _ h3,rep_evoW e _ _ h4⟩⟩
theorem entsOK_evo {F' : Nat→Prop} {ν' : Nu} (k:HeapOK ν F h w) (e:Evo ν F w ν' F' w') {es:List (V×V)} {ents:Array MapEntry} (hr:entsOK (rep F w ν) es ents):entsOK (rep F' w' ν') es ents:=entsOK_evoW (e.toW k) hr
theorem rowsC_evoW {F' : Nat→Prop} {ν' : Nu} (e:EvoW ν F w ν' F' w') {p:Bool} {c:Array Value} {s:Nat} {es:List (List V)} {o:Nat} (hr:rowsC (repO F w ν p) c s es o):rowsC (repO F' w' ν' p) c s es o:=by
 rw [rowsC_iff] at hr ⊢
 intro i row hrow
 obtain ⟨k1,k2⟩:=hr i row hrow
 exact ⟨k1,fun j v hj=>let ⟨x,k3,k4,k5⟩:=k2 j v hj; ⟨x,k3,k4,repO_evoW e k5⟩⟩
theorem obl_evoW {F' : Nat→Prop} {ν' : Nu} (e:EvoW ν F w ν' F' w') {r s n:Nat} (hw:w'.heap[r]? = w.heap[r]?) {o:O} (ho:Obl F w ν r s n o):Obl F' w' ν' r s n o:=by
 cases o with
 | rows s' p es =>
  obtain ⟨h1,h2,c,el,h3,h4,h5⟩:=ho
  exact ⟨h1,h2,c,el,by rw [hw]; exact h3,h4,rowsC_evoW e h5⟩
 | mp es =>
  obtain ⟨ents,h1,h2⟩:=ho
  exact ⟨ents,by rw [hw]; exact h1,entsOK_evoW e h2⟩
 | lp q =>
  obtain ⟨rec,h1,h2⟩:=ho
  exact ⟨rec,by rw [hw]; exact h1,h2.mono (rep_evoW e)⟩
 | it x m seen =>
  obtain ⟨mr,h1,h2⟩:=ho
  exact ⟨mr,by rw [hw]; exact h1,rep_evoW e _ _ h2⟩
theorem obl_evo {F' : Nat→Prop} {ν' : Nu} (k:HeapOK ν F h w) (e:Evo ν F w ν' F' w') {r s n:Nat} (hw:w'.heap[r]? = w.heap[r]?) {o:O} (ho:Obl F w ν r s n o):Obl F' w' ν' r s n o:=obl_evoW (e.toW k) hw ho
theorem heap_same (k:HeapOK ν F h w) (hh:w'.heap=w.heap) (h1:w'.os=w.os) (h2:w'.tape=w.tape) (h3:w'.output=w.output) (hdr:w.drawn≤w'.drawn:=by first | exact Nat.le_refl _ | exact Nat.le_succ _ | assumption | (simp; done)):HeapOK ν F h w' ∧ Evo ν F w ν F w' := by
 have e:Evo ν F w ν F w' := ⟨h1,h2,h3,by rw [hh]; exact Nat.le_refl _,fun r _ _=>by rw [hh],fun _ h=>h,fun _ h => .inl h,fun _ h => .inl h,fun _ _ _ h=>h,Nat.le_refl _,fun _=>Nat.le_refl _,fun _ _ h=>h,
  fun _ _ _ _ _ _ c e fr hc=>⟨c,by rw [hh]; exact hc,rfl⟩,by first | exact Nat.le_refl _ | exact Nat.le_succ _ | assumption | (simp; done) | omega⟩
 refine ⟨⟨fun b r s n hb=>?_,k.dom,k.inj,fun r hr=>by rw [hh]; exact k.frz r hr,k.nxt,k.cnt⟩,e⟩
 obtain ⟨o,g1,g2⟩:=k.blk b r s n hb
 exact ⟨o,g1,obl_evo k e (by rw [hh]) g2⟩
theorem push_old {ob:Obj} (hw:w' = { w with heap:=w.heap.push ob }) {r:Nat} (hlt:r<w.heap.size):w'.heap[r]? = w.heap[r]? := by
 subst hw; show (w.heap.push _)[r]? = _; rw [Array.getElem?_push,if_neg (by omega)]
theorem push_new {ob:Obj} (hw:w' = { w with heap:=w.heap.push ob }):w'.heap[w.heap.size]? = some ob:=by
 subst hw; show (w.heap.push _)[w.heap.size]? = _; rw [Array.getElem?_push,if_pos rfl]
theorem heap_newO (k:HeapOK ν F h w) (s n:Nat) (o:O) (ob:Obj) (hw:w' = { w with heap:=w.heap.push ob })
  (ho:Evo ν F w (ν.add w.heap.size s n) F w' → Obl F w' (ν.add w.heap.size s n) w.heap.size s n o) :
  HeapOK (ν.add w.heap.size s n) F (h.add o) w' ∧ Evo ν F w (ν.add w.heap.size s n) F w' := by
 have hpush : ∀ r,r<w.heap.size→w'.heap[r]? = w.heap[r]? := fun r hlt=>push_old hw hlt
 have hsize:w'.heap.size=w.heap.size+1:=by subst hw; simp
 have e:Evo ν F w (ν.add w.heap.size s n) F w' := by
  refine ⟨by rw [hw],by rw [hw],by rw [hw],by omega,fun r hlt _=>hpush r hlt,fun _ h=>h,fun _ h => .inl h,?_,?_,?_,fun _=>Nat.le_refl _,fun b hb hx=>by simp only [Nu.add] at hx; rwa [if_neg (Id.ne_new hb)] at hx,?_,by subst hw; exact Nat.le_refl _⟩
  ·rintro r ⟨b,s', n', hb⟩
   simp only [Nu.add] at hb
   by_cases hb0:b = .p ν.nxt
   ·rw [if_pos hb0] at hb; simp at hb; omega
   ·rw [if_neg hb0] at hb; exact .inl ⟨b,s', n', hb⟩
  ·intro b x hb hx
   simp only [Nu.add] at hx
   rwa [if_neg (Id.ne_new hb)] at hx
  ·simp [Nu.add]
  ·intro b r s' n' hb _ c' e' fr hc
   exact ⟨c', by rw [hpush r (lt_of_some hc)]; exact hc,rfl⟩
 refine ⟨⟨?_,?_,?_,?_,?_,k.cnt⟩,e⟩
 ·intro b r s' n' hb
  simp only [Nu.add] at hb
  rw [Hp.get_add,← k.nxt]
  by_cases hb0:b = .p ν.nxt
  ·rw [if_pos hb0] at hb
   simp at hb
   obtain ⟨rfl,rfl,rfl⟩:=hb
   exact ⟨o,by rw [if_pos hb0],ho e⟩
  ·rw [if_neg hb0] at hb
   obtain ⟨o', g1,g2⟩:=k.blk b r s' n' hb
   exact ⟨o', by rw [if_neg hb0]; exact g1,obl_evo k e (hpush r (k.at_lt hb)) g2⟩
 ·intro b o hb
  rw [Hp.get_add,← k.nxt] at hb
  simp only [Nu.add]
  by_cases hb0:b = .p ν.nxt
  ·exact .inl ⟨_,by rw [if_pos hb0]⟩
  ·rw [if_neg hb0] at hb ⊢; rw [if_neg hb0]; exact k.dom b o hb
 ·intro b b' r s1 n1 s2 n2 h1 h2
  have lt : ∀ b s' n', ν.at_ b=some (w.heap.size,s', n')→False:=fun b s' n' hb=>by
   have:=k.at_lt hb
   omega
  simp only [Nu.add] at h1 h2
  by_cases hb0:b = .p ν.nxt
  ·by_cases hb1:b' = .p ν.nxt
   ·rw [hb0,hb1]
   ·rw [if_pos hb0] at h1; rw [if_neg hb1] at h2; simp at h1; rw [← h1.1] at h2; exact (lt _ _ _ h2).elim
  ·by_cases hb1:b' = .p ν.nxt
   ·rw [if_neg hb0] at h1; rw [if_pos hb1] at h2; simp at h2; rw [← h2.1] at h1; exact (lt _ _ _ h1).elim
   ·rw [if_neg hb0] at h1; rw [if_neg hb1] at h2; exact k.inj b b' r s1 n1 s2 n2 h1 h2
 ·intro r hr'
  obtain ⟨h1,h2⟩:=k.frz r hr'
  refine ⟨by omega,?_⟩
  rintro ⟨b,s', n', hb⟩
  simp only [Nu.add] at hb
  by_cases hb0:b = .p ν.nxt
  ·rw [if_pos hb0] at hb; simp at hb; omega
  ·rw [if_neg hb0] at hb; exact h2 ⟨b,s', n', hb⟩
 ·simp only [Nu.add,Hp.add,k.nxt]
theorem heap_new (k:HeapOK ν F h w) (p:Bool) (s:Nat) (es:List (List V)) (c:Array Value) (el:TypeId) (hw:w' = { w with heap:=w.heap.push (.cells c el) })
  (hn:es.length * s≤c.size) (hr:rowsC (repO F w ν p) c s es 0) :
  HeapOK (ν.add w.heap.size s es.length) F (h.add (.rows s p es)) w' ∧ Evo ν F w (ν.add w.heap.size s es.length) F w' :=
 heap_newO k s es.length (.rows s p es) _ hw fun e=>⟨rfl,rfl,c,el,push_new hw,hn,rowsC_evo k e hr⟩
theorem heap_newM (k:HeapOK ν F h w) (hw:w' = { w with heap:=w.heap.push (.map #[] 0) }) :
  HeapOK (ν.add w.heap.size 0 0) F (h.add (.mp [])) w' ∧ Evo ν F w (ν.add w.heap.size 0 0) F w' :=
 heap_newO k 0 0 (.mp []) _ hw fun _=>⟨#[],push_new hw,by simp [entsOK]⟩
theorem setF_cnt {l:List (Nat×Fam)} {B0 k0:Nat} {x:Option (List (List V))} (B:Nat):famLen (setF l B0 k0 x) B=famLen l B:=by
 unfold famLen
 rw [getF_setF]
 by_cases hB:B=B0
 ·subst hB
  rw [if_pos rfl]
  cases getF l B with
  | none=>rfl
  | some f=>simp
 ·rw [if_neg hB]
theorem heap_del (k:HeapOK ν F h w) (b0:Id):HeapOK (ν.del b0) F (h.del b0) w∧Evo ν F w (ν.del b0) F w:=by
 have hat : ∀ b x,(ν.del b0).at_ b=some x→b≠b0∧ν.at_ b=some x:=fun b x hb=>by
  simp only [Nu.del] at hb
  by_cases h0:b=b0
  ·simp [h0] at hb
  ·rw [if_neg h0] at hb; exact ⟨h0,hb⟩
 have e:Evo ν F w (ν.del b0) F w :=
  ⟨rfl,rfl,rfl,Nat.le_refl _,fun _ _ _=>rfl,fun _ h=>h,fun _ h => .inl h,fun r ⟨b,s,n,hb⟩ => .inl ⟨b,s,n,(hat b _ hb).2⟩,fun b x _ hx=>(hat b x hx).2,Nat.le_refl _,fun _=>Nat.le_refl _,fun b _ hx=>by simp only [Nu.del] at hx; split at hx; cases hx; exact hx,
   fun _ _ _ _ _ _ c e fr hc=>⟨c,hc,rfl⟩,by first | exact Nat.le_refl _ | exact Nat.le_succ _ | assumption | (simp; done) | omega⟩
 refine ⟨⟨?_,?_,?_,?_,?_,?_⟩,e⟩
 ·intro b r s n hb
  obtain ⟨h0,hb⟩:=hat b _ hb
  obtain ⟨o,g1,g2⟩:=k.blk b r s n hb
  exact ⟨o,by rw [Hp.get_del,if_neg h0]; exact g1,obl_evo k e rfl g2⟩
 ·intro b o hb
  rw [Hp.get_del] at hb
  by_cases h0:b=b0
  ·simp [h0] at hb
  ·rw [if_neg h0] at hb
   rcases k.dom b o hb with ⟨x,hx⟩ | ⟨hx,hy⟩
   ·exact .inl ⟨x,by simp only [Nu.del]; rw [if_neg h0]; exact hx⟩
   ·exact .inr ⟨by simp only [Nu.del]; rw [if_neg h0]; exact hx,hy⟩
 ·intro b b' r s n s' n' h1 h2
  exact k.inj b b' r s n s' n' (hat b _ h1).2 (hat b' _ h2).2
 ·intro r hr
  exact ⟨(k.frz r hr).1,fun ⟨b,s,n,hb⟩=>(k.frz r hr).2 ⟨b,s,n,(hat b _ hb).2⟩⟩
 ·cases b0 <;> exact k.nxt
 ·cases b0 with
  | p n=>exact k.cnt
  | m B k0=>exact fun B' => (k.cnt B').trans (setF_cnt B').symm
theorem heap_setO (k:HeapOK ν F h w) {b0:Id} {r0 s0 n0:Nat} {o:O} (hb:ν.at_ b0=some (r0,s0,n0)) {h' : Hp} (hget : ∀ j,h'.get j=if j=b0 then some o else h.get j) (hnx:h'.nxt=h.nxt) (hcn : ∀ B,ν.cnt B=famLen h'.fs B)
  (hother : ∀ r,r≠r0→w'.heap[r]? = w.heap[r]?) (hsize:w'.heap.size=w.heap.size) (h1:w'.os=w.os) (h2:w'.tape=w.tape) (h3:w'.output=w.output)
  (hcell : ∀ c e fr,w.heap[r0]? = some (.cells c e fr) → ∃ c', w'.heap[r0]? = some (.cells c' e fr)∧c'.size=c.size)
  (ho:Evo ν F w ν F w' → Obl F w' ν r0 s0 n0 o) (hdr:w.drawn≤w'.drawn:=by first | exact Nat.le_refl _ | exact Nat.le_succ _ | assumption | (simp; done)):HeapOK ν F h' w' ∧ Evo ν F w ν F w' := by
 have own0:ν.own r0:=⟨b0,s0,_,hb⟩
 have e:Evo ν F w ν F w' := by
  refine ⟨h1,h2,h3,by omega,fun r _ ho=>hother r (fun h=>ho (h ▸ own0)),fun _ h=>h,fun _ h => .inl h,fun _ h => .inl h,fun _ _ _ h=>h,Nat.le_refl _,fun _=>Nat.le_refl _,fun _ _ h=>h,?_,by first | exact Nat.le_refl _ | exact Nat.le_succ _ | assumption | (simp; done) | omega⟩
  intro b r s n _ _ c1 e1 fr hc1
  by_cases hr0:r=r0
  ·subst hr0
   exact hcell c1 e1 fr hc1
  ·exact ⟨c1,by rw [hother r hr0]; exact hc1,rfl⟩
 refine ⟨⟨?_,?_,k.inj,fun r hr=>by rw [hsize]; exact k.frz r hr,by rw [hnx]; exact k.nxt,hcn⟩,e⟩
 ·intro b r s n hb'
  rw [hget]
  by_cases h0:b=b0
  ·subst h0
   rw [hb] at hb'
   simp at hb'
   obtain ⟨rfl,rfl,rfl⟩:=hb'
   exact ⟨o,by rw [if_pos rfl],ho e⟩
  ·obtain ⟨o', g1,g2⟩:=k.blk b r s n hb'
   have hne:r≠r0:=fun heq=>h0 (k.inj b b0 r s n s0 n0 hb' (heq ▸ hb))
   exact ⟨o', by rw [if_neg h0]; exact g1,obl_evo k e (hother r hne) g2⟩
 ·intro b o' hb'
  rw [hget] at hb'
  by_cases h0:b=b0
  ·exact .inl ⟨_,h0 ▸ hb⟩
  ·rw [if_neg h0] at hb'; exact k.dom b o' hb'
theorem put_nxt (h:Hp) (b:Id) (o:O):(h.put b o).nxt=h.nxt:=by
 cases b with
 | p n=>rfl
 | m B k=>cases o <;> rfl
theorem put_cnt (k:HeapOK ν F h w) (b:Id) (o:O) : ∀ B,ν.cnt B=famLen (h.put b o).fs B:=by
 cases b with
 | p n=>exact k.cnt
 | m B k0 =>
  cases o with
  | rows s p es=>exact fun B' => (k.cnt B').trans (setF_cnt B').symm
  | mp es=>exact k.cnt
  | lp q=>exact k.cnt
  | it x n seen=>exact k.cnt
theorem heap_set (k:HeapOK ν F h w) {b0:Id} {r0 s0:Nat} {p p0:Bool} {es0 es es' : List (List V)} {c c' : Array Value} {el:TypeId} (hg:h.get b0=some (.rows s0 p0 es0)) (hp:putOK b0 p=true) (hb:ν.at_ b0=some (r0,s0,es.length)) (hl:es'.length=es.length)
  (hc:w.heap[r0]? = some (.cells c el (0,0))) (hc' : w'.heap[r0]? = some (.cells c' el (0,0))) (hs:c'.size=c.size)
  (hother : ∀ r,r≠r0→w'.heap[r]? = w.heap[r]?) (hsize:w'.heap.size=w.heap.size) (h1:w'.os=w.os) (h2:w'.tape=w.tape) (h3:w'.output=w.output)
  (hn:es.length * s0≤c.size) (hr:rowsC (repO F w ν p) c' s0 es' 0) (hdr:w.drawn≤w'.drawn:=by first | exact Nat.le_refl _ | exact Nat.le_succ _ | assumption | (simp; done)) :
  HeapOK ν F (h.put b0 (.rows s0 p es')) w' ∧ Evo ν F w ν F w' := by
 refine heap_setO k hb (Hp.get_put hg hp es') (put_nxt _ _ _) (put_cnt k _ _) hother hsize h1 h2 h3 (fun c1 e1 fr hc1=>?_) (fun e=>⟨rfl,hl,c', el,hc', by omega,rowsC_evo k e hr⟩)
 rw [hc] at hc1
 simp at hc1
 obtain ⟨rfl,rfl,rfl⟩:=hc1
 exact ⟨c', hc', hs⟩
theorem heap_setM (k:HeapOK ν F h w) {b0 r0 s0 n0:Nat} {es es' : List (V×V)} {ents ents' : Array MapEntry} (hb:ν.at_ (.p b0)=some (r0,s0,n0))
  (hc:w.heap[r0]? = some (.map ents es.length)) (hc' : w'.heap[r0]? = some (.map ents' es'.length))
  (hother : ∀ r,r≠r0→w'.heap[r]? = w.heap[r]?) (hsize:w'.heap.size=w.heap.size) (h1:w'.os=w.os) (h2:w'.tape=w.tape) (h3:w'.output=w.output)
  (hr:entsOK (rep F w ν) es' ents') (hdr:w.drawn≤w'.drawn:=by first | exact Nat.le_refl _ | exact Nat.le_succ _ | assumption | (simp; done)) :
  HeapOK ν F (h.put (.p b0) (.mp es')) w' ∧ Evo ν F w ν F w' :=
 heap_setO k hb (Hp.get_putM h b0 es') (put_nxt _ _ _) (put_cnt k _ _) hother hsize h1 h2 h3 (fun c1 e1 fr hc1=>by rw [hc] at hc1; cases hc1) (fun e=>⟨ents', hc', entsOK_evo k e hr⟩)
theorem heap_move (k:HeapOK ν F h w) {b0:Id} {r0 s0 n0:Nat} {p:Bool} {es' : List (List V)} {c c' : Array Value} {el:TypeId} (hb:ν.at_ b0=some (r0,s0,n0))
  (hc:w.heap[r0]? = some (.cells c el (0,0))) (hc' : w'.heap[r0]? = some (.cells c' el (0,0)))
  (hother : ∀ r,r≠r0→w'.heap[r]? = w.heap[r]?) (hsize:w'.heap.size=w.heap.size) (h1:w'.os=w.os) (h2:w'.tape=w.tape) (h3:w'.output=w.output)
  (hn:es'.length * s0≤c'.size) (hr:rowsC (repO F w ν p) c' s0 es' 0) (hdr:w.drawn≤w'.drawn:=by first | exact Nat.le_refl _ | exact Nat.le_succ _ | assumption | (simp; done)) :
  HeapOK ((ν.del b0).add r0 s0 es'.length) F ((h.del b0).add (.rows s0 p es')) w' ∧ Evo ν F w ((ν.del b0).add r0 s0 es'.length) F w' := by
 have own0:ν.own r0:=⟨b0,s0,n0,hb⟩
 have hnn:(ν.del b0).nxt=ν.nxt:=rfl
 have hdn:(h.del b0).nxt=h.nxt:=by cases b0 <;> rfl
 have hat : ∀ b x,((ν.del b0).add r0 s0 es'.length).at_ b=some x→(b = .p ν.nxt∧x=(r0,s0,es'.length))∨(b ≠ .p ν.nxt∧b≠b0∧ν.at_ b=some x):=fun b x hx=>by
  simp only [Nu.add,hnn] at hx
  by_cases h0:b = .p ν.nxt
  ·rw [if_pos h0] at hx; simp at hx; exact .inl ⟨h0,hx.symm⟩
  ·rw [if_neg h0] at hx
   simp only [Nu.del] at hx
   by_cases h1:b=b0
   ·simp [h1] at hx
   ·rw [if_neg h1] at hx; exact .inr ⟨h0,h1,hx⟩
 have e:Evo ν F w ((ν.del b0).add r0 s0 es'.length) F w' := by
  refine ⟨h1,h2,h3,by omega,fun r _ ho=>hother r (fun h=>ho (h ▸ own0)),fun _ h=>h,fun _ h => .inl h,?_,?_,by simp [Nu.add,Nu.del],fun _=>Nat.le_refl _,fun b hb hx=>by simp only [Nu.add,hnn] at hx; rw [if_neg (Id.ne_new hb)] at hx; simp only [Nu.del] at hx; split at hx; cases hx; exact hx,?_,by first | exact Nat.le_refl _ | exact Nat.le_succ _ | assumption | (simp; done) | omega⟩
  ·rintro r ⟨b,s,n,hx⟩
   rcases hat b _ hx with ⟨_,h⟩ | ⟨_,_,h⟩
   ·simp at h; exact .inl (h.1 ▸ own0)
   ·exact .inl ⟨b,s,n,h⟩
  ·intro b x hlt hx
   rcases hat b _ hx with ⟨h,_⟩ | ⟨_,_,h⟩
   ·exact (Id.ne_new hlt h).elim
   ·exact h
  ·intro b r s n hb1 hb2 c1 e1 fr hc1
   rcases hat b _ hb2 with ⟨h,_⟩ | ⟨_,h0,_⟩
   ·exact (Id.ne_new (ν.lt b _ hb1) h).elim
   ·have hne:r≠r0:=fun heq=>h0 (k.inj b b0 r s n s0 n0 hb1 (heq ▸ hb))
    exact ⟨c1,by rw [hother r hne]; exact hc1,rfl⟩
 have hget : ∀ b,((h.del b0).add (.rows s0 p es')).get b=if b = .p ν.nxt then some (.rows s0 p es') else if b=b0 then none else h.get b:=fun b=>by
  rw [Hp.get_add,Hp.get_del,hdn,← k.nxt]
 refine ⟨⟨?_,?_,?_,?_,?_,?_⟩,e⟩
 ·intro b r s n hx
  rcases hat b _ hx with ⟨h0,h⟩ | ⟨h0,h0', h⟩
  ·simp at h
   obtain ⟨rfl,rfl,rfl⟩:=h
   exact ⟨.rows s p es', by rw [hget,if_pos h0],rfl,rfl,c', el,hc', hn,rowsC_evo k e hr⟩
  ·obtain ⟨o,g1,g2⟩:=k.blk b r s n h
   have hne:r≠r0:=fun heq=>h0' (k.inj b b0 r s n s0 n0 h (heq ▸ hb))
   exact ⟨o,by rw [hget,if_neg h0,if_neg h0']; exact g1,obl_evo k e (hother r hne) g2⟩
 ·intro b o hx
  rw [hget] at hx
  simp only [Nu.add,hnn]
  by_cases h0:b = .p ν.nxt
  ·exact .inl ⟨_,by rw [if_pos h0]⟩
  ·rw [if_neg h0] at hx ⊢
   rw [if_neg h0]
   by_cases h1:b=b0
   ·simp [h1] at hx
   ·rw [if_neg h1] at hx
    rcases k.dom b o hx with ⟨x,hx'⟩ | ⟨hx', hy⟩
    ·exact .inl ⟨x,by simp only [Nu.del]; rw [if_neg h1]; exact hx'⟩
    ·exact .inr ⟨by simp only [Nu.del]; rw [if_neg h1]; exact hx', hy⟩
 ·intro b b' r s n s' n' hx hy
  rcases hat b _ hx with ⟨h0,h⟩ | ⟨h0,h0', h⟩ <;> rcases hat b' _ hy with ⟨j0,j⟩ | ⟨j0,j0', j⟩
  ·rw [h0,j0]
  ·simp at h; exact (j0' (k.inj b' b0 r s' n' s0 n0 j (h.1 ▸ hb))).elim
  ·simp at j; exact (h0' (k.inj b b0 r s n s0 n0 h (j.1 ▸ hb))).elim
  ·exact k.inj b b' r s n s' n' h j
 ·intro r hr'
  refine ⟨by rw [hsize]; exact (k.frz r hr').1,?_⟩
  rintro ⟨b,s,n,hx⟩
  rcases hat b _ hx with ⟨_,h⟩ | ⟨_,_,h⟩
  ·simp at h; exact (k.frz r hr').2 (h.1 ▸ own0)
  ·exact (k.frz r hr').2 ⟨b,s,n,h⟩
 ·simp only [Nu.add,Hp.add,hdn,k.nxt,Nu.del]
 ·cases b0 with
  | p n=>exact k.cnt
  | m B k0=>exact fun B' => (k.cnt B').trans (setF_cnt B').symm
theorem heap_ph (k:HeapOK ν F h w) (s:Nat) (p:Bool):HeapOK ν.addPh F (h.add (.rows s p [])) w∧Evo ν F w ν.addPh F w:=by
 have hat : ∀ b x,ν.addPh.at_ b=some x→b ≠ .p ν.nxt∧ν.at_ b=some x:=fun b x hb=>by
  simp only [Nu.addPh] at hb
  by_cases h0:b = .p ν.nxt
  ·simp [h0] at hb
  ·rw [if_neg h0] at hb; exact ⟨h0,hb⟩
 have e:Evo ν F w ν.addPh F w :=
  ⟨rfl,rfl,rfl,Nat.le_refl _,fun _ _ _=>rfl,fun _ h=>h,fun _ h => .inl h,fun r ⟨b,s,n,hb⟩ => .inl ⟨b,s,n,(hat b _ hb).2⟩,fun b x _ hx=>(hat b x hx).2,by simp [Nu.addPh],fun _=>Nat.le_refl _,
   fun b hb hx=>by simp only [Nu.addPh] at hx; rwa [if_neg (Id.ne_new hb)] at hx,fun _ _ _ _ _ _ c e fr hc=>⟨c,hc,rfl⟩,by first | exact Nat.le_refl _ | exact Nat.le_succ _ | assumption | (simp; done) | omega⟩
 refine ⟨⟨?_,?_,?_,?_,by simp only [Nu.addPh,Hp.add,k.nxt],k.cnt⟩,e⟩
 ·intro b r s n hb
  obtain ⟨h0,hb⟩:=hat b _ hb
  obtain ⟨o,g1,g2⟩:=k.blk b r s n hb
  exact ⟨o,by rw [Hp.get_add,← k.nxt,if_neg h0]; exact g1,obl_evo k e rfl g2⟩
 ·intro b o hb
  rw [Hp.get_add,← k.nxt] at hb
  simp only [Nu.addPh]
  by_cases h0:b = .p ν.nxt
  ·rw [if_pos h0] at hb
   simp at hb
   exact .inr ⟨by rw [if_pos h0],s,p,hb.symm⟩
  ·rw [if_neg h0] at hb
   rw [if_neg h0,if_neg h0]
   exact k.dom b o hb
 ·intro b b' r s n s' n' h1 h2
  exact k.inj b b' r s n s' n' (hat b _ h1).2 (hat b' _ h2).2
 ·intro r hr
  exact ⟨(k.frz r hr).1,fun ⟨b,s,n,hb⟩=>(k.frz r hr).2 ⟨b,s,n,(hat b _ hb).2⟩⟩
end
end Go.Proofs.YtkkgicjioajimaaDoor.Clean
