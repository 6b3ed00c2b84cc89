/- A part of the proof. -/
import Derived.Test.YtkkgicjioajimaaDoorXA7G4
namespace Go.Proofs.YtkkgicjioajimaaDoor.Clean
set_option linter.unusedSimpArgs false
set_option linter.unusedVariables false
def SlotOK (G:Nat→Option (List V)) (F:Nat→Prop) (w:World) (ν:Nu) (tm:T V) (tmps:Array Value):Prop:=(∀ t v,tm.get t=some v → ∃ x,tmps[t]? = some x∧rep F w ν v x)∧GlobOK G F w
structure StOK (D:List Deferred) (G:Nat→Option (List V)) (N:Nat) (ν:Nu) (F:Nat→Prop) (st:St) (a:Act) (w:World):Prop where
 heap:HeapOK ν F st.h w
 size:a.tmps.size=N
 defers:a.defers=D
 slot:SlotOK G F w ν st.tm a.tmps
section
variable {D:List Deferred} {G:Nat→Option (List V)} {F:Nat→Prop} {w:World} {ν:Nu} {h:Hp} {N:Nat} {st:St} {a:Act}
theorem SlotOK.evo {F' : Nat→Prop} {w' : World} {ν' : Nu} {tm:T V} {tmps:Array Value} (hs:SlotOK G F w ν tm tmps) (hk:HeapOK ν F h w) (e:Evo ν F w ν' F' w'):SlotOK G F' w' ν' tm tmps :=
 ⟨fun t v ht=>let ⟨x,h1,h2⟩:=hs.1 t v ht; ⟨x,h1,rep_evo hk e v x h2⟩,fun g cs hg=>hk.riEvo e (hs.2 g cs hg)⟩
theorem ev_rep {tm:T V} (hs:SlotOK G F w ν tm a.tmps) (x:Operand):rep F w ν (ev G tm x) (a.eval x):=by
 cases x with
 | tmp t =>
  simp only [ev,Act.eval]
  cases ht:tm.get t with
  | none=>simp [rep]
  | some v =>
   obtain ⟨x,h1,h2⟩:=hs.1 t v ht
   simp [h1]; exact h2
 | const v=>exact rep_ofValue v
 | global g =>
  simp only [ev,Act.eval]
  cases hg:G g with
  | none=>simp [rep]
  | some cs=>simp only [rep]; exact hs.2 g cs hg
 | func f =>
  simp only [ev,Act.eval,rep]
  exact ⟨#[], #[],rfl,by simp [repL],by simp [repL]⟩
theorem get_set {tm:T V} {d:Nat} {v:V} (hd:d<1000000) (t:Nat):(T.setF (some v) 20 tm d).get t=if t=d then some v else tm.get t :=
  T.get_setF (some v) 20 tm d t (by have : (2 : Nat) ^ 20 = 1048576 := by decide
                                    omega)
theorem put_ok {tm:T V} {d:Option Tmp} {v:V} {x:Value} {k:T V→Prop} (hs:SlotOK G F w ν tm a.tmps) (hN:a.tmps.size=N) (hv:rep F w ν v x) (hp:putT N tm d v k) :
  ∃ tm', k tm' ∧ SlotOK G F w ν tm' (a.put d x).tmps∧(a.put d x).tmps.size=N∧(a.put d x).defers=a.defers:=by
 cases d with
 | none=>exact ⟨tm,hp,hs,hN,rfl⟩
 | some d =>
  simp only [putT,guardB_iff,Bool.and_eq_true] at hp
  obtain ⟨⟨hlt,hd⟩,hp⟩:=hp
  have hlt:d<N:=Nat.le_of_ble_eq_true hlt
  have hd:d<1000000:=Nat.le_of_ble_eq_true hd
  refine ⟨_,hp,⟨fun t u ht=>?_,hs.2⟩,by simp [Act.put,hN],rfl⟩
  rw [get_set hd] at ht
  simp only [Act.put]
  by_cases htd:t=d
  ·subst htd
   rw [if_pos rfl] at ht
   simp at ht
   subst ht
   exact ⟨x,by simp [hN,hlt],hv⟩
  ·rw [if_neg htd] at ht
   obtain ⟨y,h1,h2⟩:=hs.1 t u ht
   exact ⟨y,by rw [Array.getElem?_setIfInBounds_ne (by omega)]; exact h1,h2⟩
theorem put_same {tm:T V} {d:Tmp} {v:V} {x:Value} {k:T V→Prop} (hs:SlotOK G F w ν tm a.tmps) (hx:a.tmps[d]? = some x) (hv:rep F w ν v x) (hp:putT N tm (some d) v k) :
  ∃ tm', k tm' ∧ SlotOK G F w ν tm' a.tmps ∧ ∀ t,tm'.get t=if t=d then some v else tm.get t:=by
 simp only [putT,guardB_iff,Bool.and_eq_true] at hp
 obtain ⟨⟨hlt,hd⟩,hp⟩:=hp
 have hd:d<1000000:=Nat.le_of_ble_eq_true hd
 refine ⟨_,hp,⟨fun t u ht=>?_,hs.2⟩,get_set hd⟩
 rw [get_set hd] at ht
 by_cases htd:t=d
 ·subst htd
  rw [if_pos rfl] at ht
  simp at ht
  subst ht
  exact ⟨x,hx,hv⟩
 ·rw [if_neg htd] at ht
  exact hs.1 t u ht
def NX (D:List Deferred) (G:Nat→Option (List V)) (N:Nat) (ν:Nu) (F:Nat→Prop) (w:World) (tch:Id→Bool) (k:St→Prop) (a' : Act) (w' : World):Prop :=
 ∃ ν' F' st', StOK D G N ν' F' st' a' w' ∧ Evo ν F w ν' F' w' ∧ k st' ∧ ∀ b y,ν.at_ b=some y→tch b=false→w'.heap[y.1]? = w.heap[y.1]? ∧ ν'.at_ b=some y
theorem heap_call0 {F' : Nat→Prop} {w' : World} (hk:HeapOK ν F h w) (hb:BelowD w.heap.size w w') (h1 : ∀ r,F r→F' r) (h2 : ∀ r,F' r→F r∨w.heap.size≤r) (h3 : ∀ r,F' r→r<w'.heap.size) :
  HeapOK ν F' h w' ∧ Evo ν F w ν F' w' := by
 have own_lt : ∀ r,ν.own r→r<w.heap.size:=fun r ho=>hk.own_lt ho
 have e:Evo ν F w ν F' w' := ⟨hb.os,hb.tape,hb.output,hb.size,fun r hr _=>hb.block r hr,h1,fun r hr=>(h2 r hr).elim .inl (fun h => .inr (.inr h)),fun r hr => .inl hr,fun _ _ _ h=>h,Nat.le_refl _,fun _=>Nat.le_refl _,fun _ _ h=>h,
  fun b r s n hat _ c el fr hc=>⟨c,by rw [hb.block r (lt_of_some hc)]; exact hc,rfl⟩,hb.drawn⟩
 refine ⟨⟨fun b r s n hat=>?_,hk.dom,hk.inj,fun r hr=>⟨h3 r hr,fun ho=>?_⟩,hk.nxt,hk.cnt⟩,e⟩
 ·obtain ⟨o,g1,g2⟩:=hk.blk b r s n hat
  exact ⟨o,g1,obl_evo hk e (hb.block r (hk.at_lt hat)) g2⟩
 ·rcases h2 r hr with h | h
  ·exact (hk.frz r h).2 ho
  ·have:=own_lt r ho; omega
theorem run_sound {P:Program} {C:Calling} (hC:C.ok P) {o:Oper} {tm:T V} {Q:Exit→Act→World→Prop} {k:St→Prop} (hh:HeapOK ν F h w) (hN:a.tmps.size=N) (hd:a.defers=D) (hs:SlotOK C.glob F w ν tm a.tmps)
  (hw:wop P C (ev C.glob tm) h o.type o.op fun v h' => fzNew C h.nxt o v h' fun v h=>putT N tm o.dst v fun tm=>k ⟨tm,h⟩):wpo P o a w (NX D C.glob N ν F w (touches C (ev C.glob tm) h o.op) k) Q:=by
 rw [← hh.nxt] at hw
 have ho:=op_sound (P:=P) (C:=C) hC (o:=o) (ev_rep (a:=a) hs) hh hs.2 hw
 refine ⟨fun c hc=>by rw [hc] at hw; exact hw.elim,?_⟩
 rcases ho with ⟨F1,x,w', ν', v,h', hr,hk,hh', hv,he,hst⟩ | ⟨g,vs,xs,hr,hl,hc⟩ | ⟨l,f,tmps,assign,body,hr,hround⟩
 ·obtain ⟨ν', F', v,h', hk,hh', hv,he,hst⟩:=fz_new hk hh' hv he hst
  obtain ⟨tm', q1,q2,q3,q4⟩:=put_ok (d:=o.dst) (hs.evo hh he) hN hv hk
  have:NX D C.glob N ν F w (touches C (ev C.glob tm) h o.op) k (a.put o.dst x) w' := ⟨ν', F', ⟨tm', h'⟩,⟨hh', q3,q4.trans hd,q2⟩,he,q1,hst⟩
  rcases hr with hr | ⟨hr,rfl⟩
  ·rw [hr]; exact this
  ·rw [hr]; exact this
 ·rw [hr]
  rcases hc with ⟨hcl,hc⟩ | ⟨t,htch,hc⟩
  ·refine (hc F w xs (fun r hr=>(hh.frz r hr).1) hs.2 (repL_riL _ _ hcl hl)).mono fun e w' he=>?_
   obtain ⟨x,v,F', rfl,hk,hv,hb,h1,h2,h3⟩:=he
   obtain ⟨hh', he⟩:=heap_call0 hh hb h1 h2 h3
   obtain ⟨v', hk,hrv⟩:=hk
   have hun : ∀ b y,ν.at_ b=some y→touches C (ev C.glob tm) h o.op b=false→w'.heap[y.1]? = w.heap[y.1]? ∧ ν.at_ b=some y:=fun b y hy _=>by
    refine ⟨hb.block _ ?_,hy⟩
    exact hh.at_lt hy
   obtain ⟨ν', F', v', h', hk,hh', hv,he,hst⟩:=fz_new hk hh' (hrv (ri_rep (ν:=ν) _ _ hv)) he hun
   obtain ⟨tm', q1,q2,q3,q4⟩:=put_ok (d:=o.dst) (hs.evo hh he) hN hv hk
   exact ⟨ν', F', ⟨tm', h'⟩,⟨hh', q3,q4.trans hd,q2⟩,he,q1,hst⟩
  ·refine (hc ν F w xs hh hs.2 hl).mono fun e w' he=>?_
   obtain ⟨x,v,ν', F', h', rfl,hk,hh', hv,he,hun⟩:=he
   obtain ⟨ν', F', v', h', hk,hh', hv,he,hst⟩:=fz_new (tch:=touches C (ev C.glob tm) h o.op) hk hh' hv he (fun b y hy ht=>hun b y hy (htch b ht))
   obtain ⟨tm', q1,q2,q3,q4⟩:=put_ok (d:=o.dst) (hs.evo hh he) hN hv hk
   exact ⟨ν', F', ⟨tm', h'⟩,⟨hh', q3,q4.trans hd,q2⟩,he,q1,hst⟩
 ·rw [hr]
  refine hround.mono fun e w' he=>?_
  obtain ⟨x,v,ν', F', h', rfl,hk,hh', hv,he,hun⟩:=he
  obtain ⟨ν', F', v', h', hk,hh', hv,he,hst⟩:=fz_new (tch:=touches C (ev C.glob tm) h o.op) hk hh' hv he hun
  obtain ⟨tm', q1,q2,q3,q4⟩:=put_ok (d:=o.dst) (hs.evo hh he) hN hv hk
  exact ⟨ν', F', ⟨tm', h'⟩,⟨hh', q3,q4.trans hd,q2⟩,he,q1,hst⟩
theorem pass_sound {o:Oper} {tm:T V} {k:St→Prop} {tch:Id→Bool} (hh:HeapOK ν F h w) (hN:a.tmps.size=N) (hd:a.defers=D) (hs:SlotOK G F w ν tm a.tmps)
  (hw:putT N tm o.dst (.raw (.tuple #[])) fun tm=>k ⟨tm,h⟩):NX D G N ν F w tch k (a.put o.dst undef) w:=by
 obtain ⟨tm', q1,q2,q3,q4⟩:=put_ok (d:=o.dst) (x:=undef) hs hN (by simp [rep,undef]) hw
 exact ⟨ν,F,⟨tm', h⟩,⟨hh,q3,q4.trans hd,q2⟩,Evo.refl ν F w,q1,fun b y hy _=>⟨rfl,hy⟩⟩
theorem dstOf_eq {ops:Array Oper} {j:Nat} {d:Tmp} (h:dstOf ops.toList j=some d):(ops[j]?).bind (·.dst)=some d:=by
 simpa [dstOf] using h
theorem wanted_some {ops:Array Oper} {o:Oper} {j:Nat} {want b:Bool} {d:Tmp} (hg:o.guard=some (j,want)) (hd:dstOf ops.toList j=some d) (hx:a.tmps[d]? = some (.bool b)) :
  Region.wanted o (yielded ops a.tmps)=(b==want):=by
 unfold Region.wanted yielded
 rw [hg]
 simp [dstOf_eq hd,hx]
theorem wanted_tuple {ops:Array Oper} {o:Oper} {j:Nat} {want:Bool} {d:Tmp} {cs:Array Value} (hg:o.guard=some (j,want)) (hd:dstOf ops.toList j=some d) (hx:a.tmps[d]? = some (.tuple cs)) :
  Region.wanted o (yielded ops a.tmps)=false:=by
 unfold Region.wanted yielded
 rw [hg]
 simp [dstOf_eq hd,hx]
theorem oper_sound {P:Program} {C:Calling} (hC:C.ok P) {ops:Array Oper} {i:Nat} {o:Oper} (hi:ops[i]? = some o) {Q:Exit→Act→World→Prop} {chk:(Operand→V)→Bool} {k:St→Prop} (hst:StOK D C.glob N ν F st a w)
  {tch:Id→Bool} (htch : ∀ ρ b,chk ρ=true→tch b=false→touches C ρ st.h o.op b=false) (hw:wOper P C N ops.toList chk o st k):wpOp P ops Q i (NX D C.glob N ν F w tch k) a w:=by
 have weak : ∀ {ρ:Operand→V},chk ρ=true → ∀ a' w', NX D C.glob N ν F w (touches C ρ st.h o.op) k a' w' → NX D C.glob N ν F w tch k a' w' :=
  fun hc a' w' ⟨ν', F', st', h1,h2,h3,h4⟩=>⟨ν', F', st', h1,h2,h3,fun b y hy hb=>h4 b y hy (htch _ b hc hb)⟩
 unfold wpOp
 simp only [hi]
 unfold wOper at hw
 cases hg:o.guard with
 | none =>
  simp only [hg,guardB_iff] at hw
  have:Region.wanted o (yielded ops a.tmps)=true:=by unfold Region.wanted; rw [hg]
  rw [if_pos this]
  exact (wpo_mono (weak hw.1) (run_sound hC hst.heap hst.size hst.defers hst.slot hw.2))
 | some gw =>
  obtain ⟨j,want⟩:=gw
  simp only [hg,onSome_iff,guardV_iff,ifB_iff] at hw
  obtain ⟨d,hd,v,hv,⟨cs,rfl,hp⟩ | ⟨b,rfl,h1,h2⟩⟩:=hw
  ·obtain ⟨x,hx,hr⟩:=hst.slot.1 d _ hv
   simp only [rep] at hr
   subst hr
   rw [wanted_tuple hg hd hx]
   exact pass_sound hst.heap hst.size hst.defers hst.slot hp
  obtain ⟨x,hx,hr⟩:=hst.slot.1 d _ hv
  simp only [rep] at hr
  subst hr
  rw [wanted_some hg hd hx]
  cases b
  ·obtain ⟨tm', q1,q2,_⟩:=put_same hst.slot hx (by simp only [rep]) (h2 rfl)
   cases want
   ·simp only [guardB_iff] at q1
    exact (wpo_mono (weak q1.1) (run_sound hC hst.heap hst.size hst.defers q2 q1.2))
   ·exact pass_sound hst.heap hst.size hst.defers q2 q1
  ·obtain ⟨tm', q1,q2,_⟩:=put_same hst.slot hx (by simp only [rep]) (h1 rfl)
   cases want
   ·exact pass_sound hst.heap hst.size hst.defers q2 q1
   ·simp only [guardB_iff] at q1
    exact (wpo_mono (weak q1.1) (run_sound hC hst.heap hst.size hst.defers q2 q1.2))
def EvoU (U:Id→Bool) (ν:Nu) (F:Nat→Prop) (w:World) (ν' : Nu) (F' : Nat→Prop) (w' : World):Prop :=
 Evo ν F w ν' F' w' ∧ ∀ b y,ν.at_ b=some y→U b=true→w'.heap[y.1]? = w.heap[y.1]? ∧ ν'.at_ b=some y
theorem EvoU.refl (U:Id→Bool) (ν:Nu) (F:Nat→Prop) (w:World):EvoU U ν F w ν F w:=⟨Evo.refl ν F w,fun _ _ h _=>⟨rfl,h⟩⟩
theorem EvoU.trans {U:Id→Bool} {ν:Nu} {F:Nat→Prop} {w:World} {ν' : Nu} {F' : Nat→Prop} {w' : World} {ν'' : Nu} {F'' : Nat→Prop} {w'' : World} (h:EvoU U ν F w ν' F' w') (h' : EvoU U ν' F' w' ν'' F'' w''):EvoU U ν F w ν'' F'' w'' :=
 ⟨h.1.trans h'.1,fun b y hy hb=>⟨(h'.2 b y (h.2 b y hy hb).2 hb).1.trans (h.2 b y hy hb).1,(h'.2 b y (h.2 b y hy hb).2 hb).2⟩⟩
def Ask.keeps (X:Ask) (C:Calling) (U:Id→Bool):Prop := ∀ ρ h o b,X ρ h o=true→U b=true→touches C ρ h o b=false
theorem blt_of {a b:Nat} (h:Nat.blt a b=true):a<b:=Nat.le_of_ble_eq_true h
def Id.low (n:Nat):Id→Bool
 | .p a=>Nat.blt a n
 | .m _ _=>false
theorem Id.low_ge {n:Nat} {c b:Id} (hc:c.ge n=true) (hb:b.low n=true):c.beq b=false:=by
 refine Id.beq_false ?_
 rintro rfl
 cases c with
 | p a =>
  have h1:=Nat.le_of_ble_eq_true hc
  have h2:a<n:=blt_of hb
  omega
 | m B k=>cases hb
theorem fz_list {C:Calling} {X:Ask} {U:Id→Bool} (hX:X.keeps C U) : ∀ (vs:List V) (xs:List Value) (ν:Nu) (F:Nat→Prop) (h:Hp) (k:List V→Hp→Prop),HeapOK ν F h w→repL F w ν vs xs→fzL C X vs h k →
  ∃ ν' F' vs' h', HeapOK ν' F' h' w∧EvoU U ν F w ν' F' w∧repL F' w ν' vs' xs∧k vs' h'
 | [],xs,ν,F,h,k,hk,hr,hf=>⟨ν,F,[],h,hk,EvoU.refl _ _ _ _,hr,hf⟩
 | v::r,xs,ν,F,h,k,hk,hr,hf=>by
  simp only [repL] at hr
  obtain ⟨x,ys,rfl,h1,h2⟩:=hr
  unfold fzL at hf
  split at hf
  ·rename_i hcc; cases hcc
  ·rename_i b lo len r' hcc
   cases hcc
   rw [guardB_iff,onRows_iff] at hf
   obtain ⟨hask,s,p,es,hb,hf⟩:=hf
   rw [guardB_iff] at hf
   obtain ⟨hcl,hf⟩:=hf
   obtain ⟨F', g1,g2,g3⟩:=heap_freeze hk hb hcl
   obtain ⟨ν'', F'', vs', h'', k1,k2,k3,k4⟩:=fz_list hX r ys _ F' _ _ g1 (repL_evo hk g2 _ _ h2) hf
   refine ⟨ν'', F'', _,h'', k1,(show EvoU U ν F w _ F' w from ⟨g2,fun b' y hy hu=>⟨rfl,?_⟩⟩).trans k2,?_,k4⟩
   ·have:=hX _ _ _ b' hask hu
    simp only [touches] at this
    refine Nu.del_old (fun he=>?_) hy
    subst he
    simp at this
   ·simp only [repL]
    exact ⟨x,ys,rfl,rep_evo g1 k2.1 _ _ (g3 _ _ _ h1),k3⟩
  ·rename_i hcc
   cases hcc
   obtain ⟨ν'', F'', vs', h'', k1,k2,k3,k4⟩:=fz_list hX _ ys ν F _ _ hk h2 hf
   refine ⟨ν'', F'', _,h'', k1,k2,?_,k4⟩
   simp only [repL]
   exact ⟨x,ys,rfl,rep_evo hk k2.1 _ _ h1,k3⟩
theorem fz_old {C:Calling} {X:Ask} {U:Id→Bool} (hX:X.keeps C U) {o:Oper} {k:St→Prop} (hst:StOK D G N ν F st a w) (hf:fzOld C X o st k) :
  ∃ ν' F' st', StOK D G N ν' F' st' a w∧EvoU U ν F w ν' F' w∧k st' := by
 have stay:k st → ∃ ν' F' st', StOK D G N ν' F' st' a w∧EvoU U ν F w ν' F' w∧k st' := fun h=>⟨ν,F,st,hst,EvoU.refl _ _ _ _,h⟩
 unfold fzOld at hf
 split at hf
 ·exact stay hf
 ·rename_i d hd
  cases hc:C.fz d with
  | false=>rw [hc] at hf; exact stay hf
  | true =>
   rw [hc] at hf
   simp only [cond_true] at hf
   split at hf
   ·rename_i b lo len htm
    rw [guardB_iff,onRows_iff] at hf
    obtain ⟨hask,s,p,es,hb,hf⟩:=hf
    simp only [guardB_iff,Bool.and_eq_true] at hf
    obtain ⟨⟨hdn,hcl⟩,hf⟩:=hf
    obtain ⟨F', g1,g2,g3⟩:=heap_freeze hst.heap hb hcl
    have hs:=hst.slot.evo hst.heap g2
    obtain ⟨x,h1,h2⟩:=hst.slot.1 d _ htm
    refine ⟨_,F', _,⟨g1,hst.size,hst.defers,⟨fun t v ht=>?_,hs.2⟩⟩,⟨g2,fun b' y hy hu=>⟨rfl,?_⟩⟩,hf⟩
    ·rw [get_set (blt_of hdn)] at ht
     by_cases htd:t=d
     ·rw [if_pos htd] at ht
      simp at ht
      subst ht; subst htd
      exact ⟨x,h1,g3 _ _ _ h2⟩
     ·rw [if_neg htd] at ht
      exact hs.1 t v ht
    ·have:=hX _ _ _ b' hask hu
     simp only [touches] at this
     refine Nu.del_old (fun he=>?_) hy
     subst he
     simp at this
   ·rename_i vs htm
    rw [guardB_iff] at hf
    obtain ⟨hdn,hf⟩:=hf
    obtain ⟨x,h1,h2⟩:=hst.slot.1 d _ htm
    simp only [rep] at h2
    obtain ⟨va,rfl,h2⟩:=h2
    obtain ⟨ν', F', vs', h', k1,k2,k3,k4⟩:=fz_list hX vs _ ν F st.h _ hst.heap h2 hf
    have hs:=hst.slot.evo hst.heap k2.1
    refine ⟨ν', F', _,⟨k1,hst.size,hst.defers,⟨fun t v ht=>?_,hs.2⟩⟩,k2,k4⟩
    rw [get_set (blt_of hdn)] at ht
    by_cases htd:t=d
    ·rw [if_pos htd] at ht
     simp at ht
     subst ht; subst htd
     exact ⟨_,h1,by simp only [rep]; exact ⟨va,rfl,k3⟩⟩
    ·rw [if_neg htd] at ht
     exact hs.1 t v ht
   ·exact stay hf
theorem ops_sound {P:Program} {C:Calling} (hC:C.ok P) {X:Ask} {U:Id→Bool} (hX:X.keeps C U) {ops:Array Oper} {Q:Exit→Act→World→Prop} {k:St→Prop} {ν0:Nu} {F0:Nat→Prop} {w0:World}
  (hQ : ∀ ν F st a w,StOK D C.glob N ν F st a w→EvoU U ν0 F0 w0 ν F w→k st→Q .normal a w) :
  ∀ (m i:Nat) (ν:Nu) (F:Nat→Prop) (st:St) (a:Act) (w:World),i+m=ops.size→StOK D C.glob N ν F st a w→EvoU U ν0 F0 w0 ν F w→wOps P C X N ops.toList (ops.toList.drop i) st k→wpOps P ops Q (List.range' i m) a w
 | 0,i,ν,F,st,a,w,hm,hst,he,hw=>by
  rw [List.drop_eq_nil_of_le (by simp; omega)] at hw
  exact hQ ν F st a w hst he hw
 | m+1,i,ν,F,st,a,w,hm,hst,he,hw=>by
  have hlt:i<ops.toList.length:=by simp; omega
  rw [List.drop_eq_getElem_cons hlt] at hw
  simp only [wOps] at hw
  rw [List.range'_succ]
  show wpOp P ops Q i _ a w
  have hi:ops[i]? = some ops.toList[i]:=by simp at hlt; simp [hlt]
  refine wpOp_mono (fun a' w' hn=>?_) (oper_sound (tch:=fun b => !U b) hC hi hst (fun ρ b hx hb=>hX ρ _ _ b hx (by simpa using hb)) hw)
  obtain ⟨ν', F', st', g1,g2,g3,g4⟩:=hn
  obtain ⟨ν'', F'', st'', k1,k2,k3⟩:=fz_old hX g1 g3
  exact ops_sound hC hX hQ m (i+1) ν'' F'' st'' a' w' (by omega) k1 ((he.trans ⟨g2,fun b y hy hb=>g4 b y hy (by simp [hb])⟩).trans k2) k3
end
section
variable {F F' : Nat→Prop} {w:World} {ν ν' : Nu} {τ:Id→Tr}
def TrOK (F F' : Nat→Prop) (w:World) (ν ν' : Nu) (τ:Id→Tr):Prop :=
 ∀ b,b.lt ν.nxt ν.cnt→match τ b with
  | .drop=>True
  | .ren b' => (b'.lt ν'.nxt ν'.cnt∧(ν'.ph b' = true→ν.ph b=true)) ∧ ∀ y,ν'.at_ b' = some y→ν.at_ b=some y
  | .frz s es=>(ν.ph b=true∧es=[]) ∨ ∃ r,ν.at_ b=some (r,s,es.length)∧F' r∧RowsW (ri F' w) w r 0 s es
  | .frzm es => ∃ r s n ents,ν.at_ b=some (r,s,n)∧F' r∧w.heap[r]? = some (.map ents es.length)∧((es.all fun kv=>kv.1.closed&&kv.2.closed)=true→entsOK (ri F' w) es ents)
theorem fmp_mk {F:Nat→Prop} {w:World} {r:Nat} {es:List (V×V)} {ents:Array MapEntry} (hF:F r) (hw:w.heap[r]? = some (.map ents es.length)) (he:entsOK (ri F w) es ents):ri F w (.fmp es) (.map (some r)):=by
 simp only [ri]
 refine ⟨r,ents,rfl,hF,hw,he.1,riE_iff.2 fun i kv hi=>?_⟩
 obtain ⟨e,g1,g2,g3,g4⟩:=he.2 i kv hi
 exact ⟨e,by rw [← g1]; congr 1; omega,by omega,g3,g4⟩
mutual
theorem rep_tr (hF : ∀ r,F r→F' r) (ht:TrOK F F' w ν ν' τ) : ∀ (v:V) (x:Value),rep F w ν v x→rep F' w ν' (v.tr τ) x
 | .raw v,x,h=>by simp only [V.tr,rep] at h ⊢; exact h
 | .ptr b i off,x,h=>by
  simp only [rep] at h
  have hb:=ht b h.1.1
  simp only [V.tr]
  cases hτ:τ b with
  | drop=>simp [rep]
  | ren b' =>
   simp only [hτ] at hb
   simp only [rep]
   refine ⟨⟨hb.1.1,?_⟩,fun r s n hat=>h.2 r s n (hb.2 _ hat)⟩
   cases hq:ν'.ph b' with
   | false=>rfl
   | true=>have:=hb.1.2 hq; rw [h.1.2] at this; cases this
  | frz s es =>
   simp only [hτ] at hb
   rcases hb with ⟨hb,_⟩ | ⟨r,hat,hFr,hrows⟩
   ·rw [h.1.2] at hb; cases hb
   simp only [rep,ri]
   refine ⟨r,i * s,h.2 r s _ hat,hFr,?_⟩
   rw [riCells_iff]
   intro j v hj
   cases hi:es[i]? with
   | none=>simp [List.getD,hi] at hj
   | some row =>
    simp [List.getD,hi] at hj
    obtain ⟨_,h2⟩:=hrows i row hi
    simpa using h2 j v hj
  | frzm es=>simp [rep]
 | .sla b i off len,x,h=>by
  simp only [rep] at h
  have hb:=ht b h.1.1
  simp only [V.tr]
  cases hτ:τ b with
  | drop=>simp [rep]
  | ren b' =>
   simp only [hτ] at hb
   simp only [rep]
   refine ⟨⟨hb.1.1,?_⟩,fun r s n hat=>h.2 r s n (hb.2 _ hat)⟩
   cases hq:ν'.ph b' with
   | false=>rfl
   | true=>have:=hb.1.2 hq; rw [h.1.2] at this; cases this
  | frz s es=>simp [rep]
  | frzm es=>simp [rep]
 | .sl b lo len,x,h=>by
  simp only [rep] at h
  have hb:=ht b h.1.1
  simp only [V.tr]
  cases hτ:τ b with
  | drop=>simp [rep]
  | ren b' =>
   simp only [hτ] at hb
   simp only [rep]
   exact ⟨⟨hb.1.1,fun hq=>h.1.2 (hb.1.2 hq)⟩,fun r s n hat=>h.2 r s n (hb.2 _ hat)⟩
  | frz s es =>
   simp only [hτ] at hb
   rcases hb with ⟨hb,rfl⟩ | ⟨r,hat,hFr,hrows⟩
   ·obtain ⟨_,_,rfl⟩:=h.1.2 hb
    simp [rep,ri,sub]
   obtain ⟨h1,cap,h2,⟨o', ho', rfl⟩,_⟩:=h.2 r s _ hat
   have hlen:(sub es lo len).length=len:=by simp [sub]; omega
   simp only [rep,ri]
   rcases ho' with rfl | ⟨h0,_⟩
   rotate_left
   ·exact .inr ⟨⟨r,o', none⟩,cap,by rw [hlen]; exact h2,by rw [hlen],.inl (List.eq_nil_of_length_eq_zero (by omega))⟩
   refine .inr ⟨⟨r,lo * s,none⟩,cap,by rw [hlen]; exact h2,by rw [hlen],.inr ⟨rfl,hFr,?_⟩⟩
   rw [riRows_iff]
   have:=hrows.sub lo len
   unfold RowsW at this
   simpa using this
  | frzm es=>simp [rep]
 | .mp b,x,h=>by
  simp only [rep] at h
  have hb:=ht b h.1
  simp only [V.tr]
  cases hτ:τ b with
  | drop=>simp [rep]
  | ren b' =>
   simp only [hτ] at hb
   simp only [rep]
   exact ⟨hb.1.1,fun r s n hat=>h.2 r s n (hb.2 _ hat)⟩
  | frz s es=>simp [rep]
  | frzm es =>
   simp only [hτ] at hb
   obtain ⟨r,s,n,ents,hat,hFr,hw,he⟩:=hb
   show rep F' w ν' (fmpV es) x
   unfold fmpV
   cases hcl:es.all fun kv=>kv.1.closed&&kv.2.closed with
   | false=>simp [rep]
   | true =>
    rw [h.2 r s n hat,cond_true]
    simp only [rep]
    exact fmp_mk hFr hw (he hcl)
 | .yl b,x,h=>by
  simp only [rep] at h
  have hb:=ht b h.1
  simp only [V.tr]
  cases hτ:τ b with
  | drop=>simp [rep]
  | ren b' =>
   simp only [hτ] at hb
   simp only [rep]
   exact ⟨hb.1.1,fun r s n hat=>h.2 r s n (hb.2 _ hat)⟩
  | frz s es=>simp [rep]
  | frzm es=>simp [rep]
 | .lst s es,x,h=>by
  simp only [V.tr,rep] at h ⊢
  exact ri_mono hF (fun _ _=>rfl) _ _ h
 | .lsx s es,x,h=>by
  simp only [V.tr,rep] at h ⊢
  exact ri_mono hF (fun _ _=>rfl) _ _ h
 | .adr cs off,x,h=>by
  simp only [V.tr,rep] at h ⊢
  exact ri_mono hF (fun _ _=>rfl) _ _ h
 | .fmp es,x,h=>by
  simp only [V.tr,rep] at h ⊢
  exact ri_mono hF (fun _ _=>rfl) _ _ h
 | .agg cs,x,h=>by
  simp only [V.tr,rep] at h ⊢
  obtain ⟨vs,h1,h2⟩:=h
  exact ⟨vs,h1,repL_tr hF ht cs _ h2⟩
 | .tup cs,x,h=>by
  simp only [V.tr,rep] at h ⊢
  obtain ⟨vs,h1,h2⟩:=h
  exact ⟨vs,h1,repL_tr hF ht cs _ h2⟩
 | .fn f a c,x,h=>by
  simp only [V.tr,rep] at h ⊢
  obtain ⟨as,cs,h1,h2,h3⟩:=h
  exact ⟨as,cs,h1,repL_tr hF ht a _ h2,repL_tr hF ht c _ h3⟩
 | .junk,x,h=>by simp [V.tr,rep]
theorem repL_tr (hF : ∀ r,F r→F' r) (ht:TrOK F F' w ν ν' τ) : ∀ (vs:List V) (xs:List Value),repL F w ν vs xs→repL F' w ν' (trL τ vs) xs
 | [],xs,h=>by simp only [trL,repL] at h ⊢; exact h
 | v::vs,xs,h=>by
  simp only [trL,repL] at h ⊢
  obtain ⟨x,ys,h1,h2,h3⟩:=h
  exact ⟨x,ys,h1,rep_tr hF ht v x h2,repL_tr hF ht vs ys h3⟩
end
mutual
theorem tr_closed (hτ : ∀ b b', τ b ≠ .ren b') : ∀ (v:V),(v.tr τ).closed=true
 | .raw v=>by simp [V.tr,V.closed]
 | .ptr b i off=>by
  simp only [V.tr]
  cases h:τ b with
  | drop=>simp [V.closed]
  | ren b' => exact (hτ b b' h).elim
  | frz s es=>simp [V.closed]
  | frzm es=>first | (simp [V.closed]; done) | (show (fmpV es).closed=true; unfold fmpV; cases (es.all fun kv=>kv.1.closed&&kv.2.closed) <;> simp [V.closed])
 | .sla b i off len=>by
  simp only [V.tr]
  cases h:τ b with
  | drop=>simp [V.closed]
  | ren b' => exact (hτ b b' h).elim
  | frz s es=>simp [V.closed]
  | frzm es=>first | (simp [V.closed]; done) | (show (fmpV es).closed=true; unfold fmpV; cases (es.all fun kv=>kv.1.closed&&kv.2.closed) <;> simp [V.closed])
 | .sl b lo len=>by
  simp only [V.tr]
  cases h:τ b with
  | drop=>simp [V.closed]
  | ren b' => exact (hτ b b' h).elim
  | frz s es=>simp [V.closed]
  | frzm es=>first | (simp [V.closed]; done) | (show (fmpV es).closed=true; unfold fmpV; cases (es.all fun kv=>kv.1.closed&&kv.2.closed) <;> simp [V.closed])
 | .mp b=>by
  simp only [V.tr]
  cases h:τ b with
  | drop=>simp [V.closed]
  | ren b' => exact (hτ b b' h).elim
  | frz s es=>simp [V.closed]
  | frzm es=>first | (simp [V.closed]; done) | (show (fmpV es).closed=true; unfold fmpV; cases (es.all fun kv=>kv.1.closed&&kv.2.closed) <;> simp [V.closed])
 | .yl b=>by
  simp only [V.tr]
  cases h:τ b with
  | drop=>simp [V.closed]
  | ren b' => exact (hτ b b' h).elim
  | frz s es=>simp [V.closed]
  | frzm es=>first | (simp [V.closed]; done) | (show (fmpV es).closed=true; unfold fmpV; cases (es.all fun kv=>kv.1.closed&&kv.2.closed) <;> simp [V.closed])
 | .lst s es=>by simp [V.tr,V.closed]
 | .lsx s es=>by simp [V.tr,V.closed]
 | .adr cs off=>by simp [V.tr,V.closed]
 | .fmp es=>by simp [V.tr,V.closed]
 | .agg cs=>by simp only [V.tr,V.closed]; exact trL_closed hτ cs
 | .tup cs=>by simp only [V.tr,V.closed]; exact trL_closed hτ cs
 | .fn f a c=>by simp only [V.tr,V.closed,Bool.and_eq_true]; exact ⟨trL_closed hτ a,trL_closed hτ c⟩
 | .junk=>by simp [V.tr,V.closed]
theorem trL_closed (hτ : ∀ b b', τ b ≠ .ren b') : ∀ (vs:List V),closedL (trL τ vs)=true
 | []=>by simp [trL,closedL]
 | v::vs=>by simp only [trL,closedL,Bool.and_eq_true]; exact ⟨tr_closed hτ v,trL_closed hτ vs⟩
end
end
end Go.Proofs.YtkkgicjioajimaaDoor.Clean
namespace Go.Proofs.YtkkgicjioajimaaDoor.Clean
set_option linter.unusedSimpArgs false
set_option linter.unusedVariables false
theorem nodupB_inj {α:Type} {f:α→Nat} : ∀ {l:List α},nodupB (l.map f)=true → ∀ {p q:α},p∈l→q∈l→f p=f q→p=q
 | [],_,p,q,hp,_,_=>by simp at hp
 | x::l,h,p,q,hp,hq,hf=>by
  simp only [List.map,nodupB,Bool.and_eq_true,Bool.not_eq_true', List.any_eq_false,List.mem_map,forall_exists_index,and_imp,forall_apply_eq_imp_iff₂] at h
  have hne : ∀ y∈l,f x≠f y:=fun y hy he=>by
   have:=h.1 y hy
   rw [he] at this
   simp at this
  simp only [List.mem_cons] at hp hq
  rcases hp with rfl | hp <;> rcases hq with rfl | hq
  ·rfl
  ·exact (hne q hq hf).elim
  ·exact (hne p hp hf.symm).elim
  ·exact nodupB_inj h.2 hp hq hf
theorem nodupI_iff : ∀ {l:List Id},nodupI l=true↔l.Nodup
 | []=>by simp [nodupI]
 | x::l=>by
  simp only [nodupI,Bool.and_eq_true,Bool.not_eq_true', List.any_eq_false,List.nodup_cons,nodupI_iff (l:=l)]
  refine and_congr_left fun _=>⟨fun h hm=>h x hm (by simp),fun h y hy he=>h ?_⟩
  rw [Id.beq_iff.1 he]; exact hy
theorem nodupI_inj {α:Type} {f:α→Id} : ∀ {l:List α},nodupI (l.map f)=true → ∀ {p q:α},p∈l→q∈l→f p=f q→p=q
 | [],_,p,q,hp,_,_=>by simp at hp
 | x::l,h,p,q,hp,hq,hf=>by
  simp only [List.map,nodupI,Bool.and_eq_true,Bool.not_eq_true', List.any_eq_false,List.mem_map,forall_exists_index,and_imp,forall_apply_eq_imp_iff₂] at h
  have hne : ∀ y∈l,f x≠f y:=fun y hy he=>by
   have:=h.1 y hy
   rw [he] at this
   simp at this
  simp only [List.mem_cons] at hp hq
  rcases hp with rfl | hp <;> rcases hq with rfl | hq
  ·rfl
  ·exact (hne q hq hf).elim
  ·exact (hne p hp hf.symm).elim
  ·exact nodupI_inj h.2 hp hq hf
theorem renOf_cases : ∀ (bs:List (Id×Nat)) (x:Id),renOf bs x = .drop ∨ ∃ b,renOf bs x = .ren (.p b)∧(x,b)∈bs
 | [],x => .inl rfl
 | (a,b)::r,x=>by
  simp only [renOf,Id.cond_beq]
  by_cases h:a=x
  ·subst h; rw [if_pos rfl]; exact .inr ⟨b,rfl,by simp⟩
  ·rw [if_neg h]
   rcases renOf_cases r x with h1 | ⟨b', h1,h2⟩
   ·exact .inl h1
   ·exact .inr ⟨b', h1,by simp [h2]⟩
noncomputable def keepO (τ:Id→Tr) (pu:Bool):O→O
 | .rows s true es => .rows s true es
 | .rows s false es=>bif pu&&es.all closedL then .rows s true es else .rows s false (es.map (trL τ))
 | .mp es => .mp (es.map fun kv=>(kv.1.tr τ,kv.2.tr τ))
 | .lp q => .lp (q.mapV (V.tr τ))
 | .it x n seen => .it (x.tr τ) n seen
theorem keepBs_cons {τ:Id→Tr} {pu:List Nat} {h:Hp} {a:Id} {b:Nat} {r:List (Id×Nat)}:keepBs τ pu h ((a,b)::r)=match h.get a with | some o=>(b,keepO τ (pu.any b.beq) o)::keepBs τ pu h r | none=>keepBs τ pu h r:=by
 simp only [keepBs]
 cases h.get a with
 | none=>rfl
 | some o=>cases o with
  | rows s p es=>cases p <;> rfl
  | mp es=>rfl
  | lp q=>rfl
  | it x n seen=>rfl
theorem keepBs_get {τ:Id→Tr} {pu:List Nat} {h:Hp} : ∀ {bs:List (Id×Nat)},nodupB (bs.map (·.2))=true → ∀ {a:Id} {b:Nat} {o:O},(a,b)∈bs→h.get a=some o→getB (keepBs τ pu h bs) b=some (keepO τ (pu.any b.beq) o)
 | [],_,a,b,o,hm,_=>by simp at hm
 | (a', b')::r,hn,a,b,o,hm,ho=>by
  have hn' := hn
  simp only [List.map,nodupB,Bool.and_eq_true] at hn
  simp only [List.mem_cons] at hm
  rw [keepBs_cons]
  rcases hm with hm | hm
  ·simp at hm
   obtain ⟨rfl,rfl⟩:=hm
   simp only [ho]
   simp [getB_cons]
  ·have hne:b' ≠ b:=fun he=>by
    have hf:(r.map (·.2)).any b'.beq=false:=by simpa using hn.1
    rw [List.any_eq_false] at hf
    have:=hf b (List.mem_map.2 ⟨(a,b),hm,rfl⟩)
    rw [he] at this
    simp at this
   have ih:=keepBs_get (τ:=τ) (pu:=pu) (h:=h) hn.2 hm ho
   cases h.get a' with
   | none=>exact ih
   | some o' => simp only [getB_cons]; rw [if_neg hne]; exact ih
theorem keepBs_dom {τ:Id→Tr} {pu:List Nat} {h:Hp} : ∀ {bs:List (Id×Nat)} {b:Nat} {o:O},getB (keepBs τ pu h bs) b=some o → ∃ a o', (a,b)∈bs∧h.get a=some o'
 | [],b,o,hg=>by simp [keepBs,getB] at hg
 | (a', b')::r,b,o,hg=>by
  rw [keepBs_cons] at hg
  cases ha:h.get a' with
  | none =>
   simp only [ha] at hg
   obtain ⟨a,o', h1,h2⟩:=keepBs_dom hg
   exact ⟨a,o', by simp [h1],h2⟩
  | some o' =>
   simp only [ha,getB_cons] at hg
   by_cases hb:b' = b
   ·exact ⟨a', o', by simp [hb],ha⟩
   ·rw [if_neg hb] at hg
    obtain ⟨a,o'', h1,h2⟩:=keepBs_dom hg
    exact ⟨a,o'', by simp [h1],h2⟩
theorem trL_length (τ:Id→Tr) : ∀ vs:List V,(trL τ vs).length=vs.length
 | []=>rfl
 | v::vs=>by simp [trL,trL_length τ vs]
theorem trL_get (τ:Id→Tr) : ∀ (vs:List V) (j:Nat),(trL τ vs)[j]? = (vs[j]?).map (V.tr τ)
 | [],j=>by simp [trL]
 | v::vs,j=>by
  cases j with
  | zero=>simp [trL]
  | succ j=>simpa [trL] using trL_get τ vs j
theorem mkT_get : ∀ (l:List (Tmp×V)),(∀ p∈l,p.1<1000000) → ∀ t v,(mkT l).get t=some v→(t,v)∈l
 | [],_,t,v,h=>by simp [mkT,T.get] at h
 | (t', v')::r,hl,t,v,h=>by
  rw [mkT,get_set (hl (t', v') (by simp))] at h
  by_cases ht:t=t'
  ·subst ht; simp at h; subst h; simp
  ·rw [if_neg ht] at h
   exact List.mem_cons_of_mem _ (mkT_get r (fun p hp=>hl p (by simp [hp])) t v h)
theorem nilBs_get : ∀ {l:List (Tmp×Nat×Nat)} {b:Nat} {o:O},getB (nilBs l) b=some o → ∃ t s,(t,b,s)∈l∧o = .rows s true []
 | [],b,o,h=>by simp [nilBs,getB] at h
 | (t,b', s)::r,b,o,h=>by
  rw [nilBs,getB_cons] at h
  by_cases hb:b' = b
  ·rw [if_pos hb] at h
   simp at h
   exact ⟨t,s,by simp [hb],h.symm⟩
  ·rw [if_neg hb] at h
   obtain ⟨t', s', h1,h2⟩:=nilBs_get h
   exact ⟨t', s', by simp [h1],h2⟩
theorem nilBs_none : ∀ {l:List (Tmp×Nat×Nat)} {b:Nat},(∀ p∈l,p.2.1≠b)→getB (nilBs l) b=none
 | [],b,h=>by simp [nilBs,getB]
 | (t,b', s)::r,b,h=>by
  rw [nilBs,getB_cons,if_neg (h (t,b', s) (by simp))]
  exact nilBs_none fun p hp=>h p (by simp [hp])
theorem getB_append : ∀ (l m:List (Nat×O)) (b:Nat),getB (l++m) b=(match getB l b with | some o=>some o | none=>getB m b)
 | [],m,b=>by simp [getB]
 | (k,o)::r,m,b=>by
  rw [List.cons_append,getB_cons,getB_cons,getB_append r m b]
  by_cases hk:k=b
  ·simp [hk]
  ·simp [hk]
theorem nodupB_mem : ∀ {l:List Nat} {a b:List Nat},l=a++b→nodupB l=true → ∀ x,x∈a→x∈b→False
 | l,[],b,_,_,x,hx,_=>by simp at hx
 | l,y::a,b,hl,hn,x,hx,hb=>by
  subst hl
  simp only [List.cons_append,nodupB,Bool.and_eq_true,Bool.not_eq_true', List.any_eq_false] at hn
  simp only [List.mem_cons] at hx
  rcases hx with rfl | hx
  ·have:=hn.1 x (by simp [hb])
   simp at this
  ·exact nodupB_mem rfl hn.2 x hx hb
theorem nodupB_right : ∀ {a b:List Nat},nodupB (a++b)=true→nodupB b=true
 | [],b,h=>h
 | y::a,b,h=>by
  simp only [List.cons_append,nodupB,Bool.and_eq_true] at h
  exact nodupB_right h.2
section
variable {D:List Deferred} {G:Nat→Option (List V)} {F:Nat→Prop} {w:World} {ν:Nu} {N:Nat} {st:St} {a:Act} {kp:Keep}
theorem Keep.ok_iff:kp.ok=true↔nodupI (kp.blocks.map (·.1))=true∧nodupB (kp.nils.map (·.2.1)++kp.blocks.map (·.2))=true∧(∀ p∈kp.blocks,Nat.blt p.2 kp.nxt=true)∧(∀ p∈kp.nils,Nat.blt p.2.1 kp.nxt=true∧Nat.blt p.1 1000000=true)∧(∀ t∈kp.slots,Nat.blt t 1000000=true)∧famsOK kp=true:=by
 simp only [Keep.ok,Bool.and_eq_true,List.all_eq_true,and_assoc]
def Keep.src (kp:Keep) (h:Hp):Id→Option Id
 | .p b' => (kp.blocks.find? fun p=>p.2.beq b').map (·.1)
 | .m B k=>match kp.fams.find? fun f=>f.to.beq B with
  | none=>none
  | some f=>if k<(f.old h).length then f.of.map (fun B0=>Id.m B0 k) else (f.take[k - (f.old h).length]?).map .p
def Keep.live (kp:Keep) (h:Hp):Id→Bool
 | .p _=>true
 | .m B k=>match kp.fams.find? fun f=>f.to.beq B with
  | none=>false
  | some f=>(memb (f.ms h) k).isSome
def Keep.cnt (kp:Keep) (h:Hp) (B:Nat):Nat:=match kp.fams.find? fun f=>f.to.beq B with
 | none=>0
 | some f=>(f.ms h).length
theorem keepFs_get {h:Hp} : ∀ (fs:List Fk) (B:Nat),getF (keepFs h fs) B=(fs.find? fun f=>f.to.beq B).map fun f=>⟨f.s,f.ms h⟩
 | [],B=>rfl
 | f::r,B=>by
  simp only [keepFs,getF,List.find?_cons]
  cases f.to.beq B with
  | true=>rfl
  | false=>exact keepFs_get r B
theorem Keep.cnt_eq (kp:Keep) (h:Hp) (B:Nat):kp.cnt h B=famLen (keepFs h kp.fams) B:=by
 unfold Keep.cnt famLen
 rw [keepFs_get]
 cases kp.fams.find? fun f=>f.to.beq B <;> rfl
theorem pairwise_get {l:List Fk} {R:Fk→Fk→Prop} (hr:l.Pairwise R) (hsym : ∀ a b,R a b→R b a) {f f' : Fk} (hf:f∈l) (hf' : f' ∈ l):f=f' ∨ R f f' := by
 obtain ⟨i,hi,rfl⟩:=List.mem_iff_getElem.1 hf
 obtain ⟨j,hj,rfl⟩:=List.mem_iff_getElem.1 hf'
 rw [List.pairwise_iff_getElem] at hr
 rcases Nat.lt_trichotomy i j with h | h | h
 ·exact .inr (hr i j hi hj h)
 ·subst h; exact .inl rfl
 ·exact .inr (hsym _ _ (hr j i hj hi h))
structure FamsOK (kp:Keep):Prop where
 plain:kp.fams≠[] → ∀ p∈kp.blocks,p.1.plain=true
 apart:kp.fams≠[]→(kp.blocks.map (·.1)++kp.fams.flatMap fun f=>f.take.map Id.p).Nodup
 to : ∀ f∈kp.fams, ∀ f' ∈ kp.fams,f.to=f'.to→f=f'
 of : ∀ f∈kp.fams, ∀ f' ∈ kp.fams, ∀ B,f.of=some B→f'.of=some B→f=f'
theorem nodupB_iff : ∀ {l:List Nat},nodupB l=true→l.Nodup
 | [],_=>by simp
 | x::l,h=>by
  simp only [nodupB,Bool.and_eq_true,Bool.not_eq_true', List.any_eq_false] at h
  rw [List.nodup_cons]
  exact ⟨fun hm=>h.1 x hm (by simp),nodupB_iff h.2⟩
theorem famsOK_iff (h:famsOK kp=true):FamsOK kp:=by
 unfold famsOK at h
 simp only [Bool.or_eq_true,Bool.and_eq_true,List.isEmpty_iff,List.all_eq_true] at h
 rcases h with h | ⟨⟨⟨h1,h2⟩,h3⟩,h4⟩
 ·refine ⟨fun hn=>(hn h).elim,fun hn=>(hn h).elim,fun f hf=>by simp [h] at hf,fun f hf=>by simp [h] at hf⟩
 ·refine ⟨fun _=>h1,fun _=>nodupI_iff.1 h2,fun f hf f' hf' he=>nodupB_inj (f:=fun f:Fk=>f.to) h3 hf hf' he,fun f hf f' hf' B h5 h6=>?_⟩
  have hn:=nodupB_iff h4
  have:kp.fams.Pairwise fun f f' => ∀ B,f.of=some B→f'.of=some B→False:=by
   have hp:(kp.fams.filterMap (·.of)).Pairwise (· ≠ ·):=hn
   rw [List.pairwise_filterMap] at hp
   exact hp.imp fun hR B a1 a2=>hR B a1 B a2 rfl
  rcases pairwise_get this (fun a b hab B x y=>hab B y x) hf hf' with h | h
  ·exact h
  ·exact (h B h5 h6).elim
theorem find_to {l:List Fk} {B:Nat} {f:Fk} (h:l.find? (fun f=>f.to.beq B)=some f):f∈l∧f.to=B :=
 ⟨List.mem_of_find?_eq_some h,beq_eq (List.find?_some (p:=fun f:Fk=>f.to.beq B) h)⟩
theorem find_to_some (hF:FamsOK kp) {f:Fk} (hf:f∈kp.fams):kp.fams.find? (fun g=>g.to.beq f.to)=some f:=by
 cases hx:kp.fams.find? (fun g=>g.to.beq f.to) with
 | none =>
  rw [List.find?_eq_none] at hx
  have:=hx f hf
  simp at this
 | some g =>
  obtain ⟨h1,h2⟩:=find_to hx
  rw [hF.to g h1 f hf h2]
theorem find_blk (hok:kp.ok=true) {b:Nat} {a:Id} (hm:(a,b)∈kp.blocks):kp.blocks.find? (fun p=>p.2.beq b)=some (a,b):=by
 have hn:=nodupB_right (Keep.ok_iff.1 hok).2.1
 cases hf:kp.blocks.find? (fun p=>p.2.beq b) with
 | none =>
  rw [List.find?_eq_none] at hf
  have:=hf (a,b) hm
  simp at this
 | some p =>
  have hpm:=List.mem_of_find?_eq_some hf
  have hb:=beq_eq (List.find?_some (p:=fun p:Id×Nat=>p.2.beq b) hf)
  have:=nodupB_inj (f:=fun p:Id×Nat=>p.2) hn hpm hm hb
  rw [this]
theorem src_p {h:Hp} {b:Nat} {a:Id} (hs:kp.src h (.p b)=some a):(a,b)∈kp.blocks:=by
 simp only [Keep.src,Option.map_eq_some_iff] at hs
 obtain ⟨p,h1,rfl⟩:=hs
 have hb:=beq_eq (List.find?_some (p:=fun p:Id×Nat=>p.2.beq b) h1)
 rw [← hb]
 exact List.mem_of_find?_eq_some h1
theorem src_m {h:Hp} {B k:Nat} {a:Id} (hs:kp.src h (.m B k)=some a) : ∃ f∈kp.fams,f.to=B∧kp.fams.find? (fun f=>f.to.beq B)=some f ∧
  ((k<(f.old h).length ∧ ∃ B0,f.of=some B0∧a = .m B0 k)∨(¬ k<(f.old h).length ∧ ∃ a0,f.take[k - (f.old h).length]? = some a0∧a = .p a0)):=by
 simp only [Keep.src] at hs
 cases hf:kp.fams.find? fun f=>f.to.beq B with
 | none=>simp [hf] at hs
 | some f =>
  obtain ⟨h1,h2⟩:=find_to hf
  rw [hf] at hs
  refine ⟨f,h1,h2,rfl,?_⟩
  simp only at hs
  by_cases hk:k<(f.old h).length
  ·rw [if_pos hk,Option.map_eq_some_iff] at hs
   obtain ⟨B0,h3,h4⟩:=hs
   exact .inl ⟨hk,B0,h3,h4.symm⟩
  ·rw [if_neg hk,Option.map_eq_some_iff] at hs
   obtain ⟨a0,h3,h4⟩:=hs
   exact .inr ⟨hk,a0,h3,h4.symm⟩
theorem src_inj (hok:kp.ok=true) {h:Hp} {b b' a:Id} (h1:kp.src h b=some a) (h2:kp.src h b' = some a):b=b' := by
 have hF:=famsOK_iff (Keep.ok_iff.1 hok).2.2.2.2.2
 have hn1:=(Keep.ok_iff.1 hok).1
 have pm : ∀ {b0 B k:Nat},kp.src h (.p b0)=some a→kp.src h (.m B k)=some a→False:=fun {b0 B k} h1 h2=>by
  have hm:=src_p h1
  obtain ⟨f,hf,_,_,h3⟩:=src_m h2
  have hne:kp.fams≠[]:=fun he=>by simp [he] at hf
  rcases h3 with ⟨_,B0,_,rfl⟩ | ⟨_,a0,h3,rfl⟩
  ·have:=hF.plain hne _ hm
   simp [Id.plain] at this
  ·have hnd:=hF.apart hne
   rw [List.nodup_append] at hnd
   exact hnd.2.2 (.p a0) (List.mem_map.2 ⟨_,hm,rfl⟩) (.p a0) (List.mem_flatMap.2 ⟨f,hf,List.mem_map.2 ⟨a0,List.mem_of_getElem? h3,rfl⟩⟩) rfl
 cases b with
 | p b0 =>
  cases b' with
  | p b1 =>
   have m1:=src_p h1
   have m2:=src_p h2
   have:=nodupI_inj (f:=fun p:Id×Nat=>p.1) hn1 m1 m2 rfl
   simp at this
   rw [this]
  | m B k=>exact (pm h1 h2).elim
 | m B k =>
  cases b' with
  | p b1=>exact (pm h2 h1).elim
  | m B' k' =>
   obtain ⟨f,hf,rfl,_,h3⟩:=src_m h1
   obtain ⟨f', hf', rfl,_,h4⟩:=src_m h2
   rcases h3 with ⟨_,B0,h5,rfl⟩ | ⟨hk,a0,h5,rfl⟩ <;> rcases h4 with ⟨_,B1,h6,h7⟩ | ⟨hk', a1,h6,h7⟩
   ·simp at h7
    obtain ⟨rfl,rfl⟩:=h7
    rw [hF.of f hf f' hf' _ h5 h6]
   ·simp at h7
   ·simp at h7
   ·simp at h7
    subst h7
    have hne:kp.fams≠[]:=fun he=>by simp [he] at hf
    have hnd:=(List.nodup_append.1 (hF.apart hne)).2.1
    have hnd:(kp.fams.flatMap fun f=>f.take.map Id.p).Pairwise (· ≠ ·):=hnd
    rw [List.pairwise_flatMap] at hnd
    have hff:f=f' := by
     rcases pairwise_get hnd.2 (fun a b hab x hx y hy he=>hab y hy x hx he.symm) hf hf' with h | h
     ·exact h
     ·exact (h (.p a0) (List.mem_map.2 ⟨a0,List.mem_of_getElem? h5,rfl⟩) (.p a0) (List.mem_map.2 ⟨a0,List.mem_of_getElem? h6,rfl⟩) rfl).elim
    subst hff
    have hnt:f.take.Nodup:=by
     have:(f.take.map Id.p).Pairwise (· ≠ ·):=hnd.1 f hf
     rw [List.pairwise_map] at this
     exact this.imp fun hR he=>hR (by rw [he])
    have:=(List.getElem?_inj (List.getElem?_eq_some_iff.1 h5).1 hnt).1 (h5.trans h6.symm)
    rw [show k=k' by omega]
def kpNu (kp:Keep) (hok:kp.ok=true) (h:Hp) (ν:Nu):Nu where
 at_ b' := if kp.live h b' = true then (kp.src h b').bind ν.at_ else none
 nxt:=kp.nxt
 cnt:=kp.cnt h
 lt b x hx:=by
  split at hx
  ·rename_i hl
   rw [Option.bind_eq_some_iff] at hx
   obtain ⟨a,h1,_⟩:=hx
   cases b with
   | p b0=>exact blt_of ((Keep.ok_iff.1 hok).2.2.1 _ (src_p h1))
   | m B k =>
    simp only [Keep.live] at hl
    show k<kp.cnt h B
    unfold Keep.cnt
    cases hf:kp.fams.find? fun f=>f.to.beq B with
    | none=>simp [hf] at hl
    | some f =>
     rw [hf] at hl
     obtain ⟨es,he⟩:=Option.isSome_iff_exists.1 hl
     exact memb_lt he
  ·cases hx
 ph b' := (match b' with | .p n=>kp.nils.any (fun p=>p.2.1.beq n) | .m _ _=>false) || ((kp.src h b').any ν.ph)
 phx b' x hx:=by
  split at hx
  ·rw [Option.bind_eq_some_iff] at hx
   obtain ⟨a,h1,h2⟩:=hx
   rw [h1,Bool.or_eq_false_iff]
   refine ⟨?_,by simp [ν.phx a x h2]⟩
   cases b' with
   | m B k=>rfl
   | p n =>
    rw [List.any_eq_false]
    exact fun q hq he=>nodupB_mem rfl (Keep.ok_iff.1 hok).2.1 n (List.mem_map.2 ⟨q,hq,beq_eq he⟩) (List.mem_map.2 ⟨_,src_p h1,rfl⟩)
  ·cases hx
theorem kpNu_at (hok:kp.ok=true) {h:Hp} {b:Id} {x:Nat×Nat×Nat}:(kpNu kp hok h ν).at_ b=some x↔kp.live h b=true ∧ ∃ a,kp.src h b=some a∧ν.at_ a=some x:=by
 simp only [kpNu]
 constructor
 ·intro hx
  split at hx
  ·rename_i hl
   rw [Option.bind_eq_some_iff] at hx
   exact ⟨hl,hx⟩
  ·cases hx
 ·rintro ⟨hl,a,h1,h2⟩
  rw [if_pos hl,h1]
  exact h2
theorem kpNu_iff (hok:kp.ok=true) {h:Hp} {b:Nat} {x:Nat×Nat×Nat}:(kpNu kp hok h ν).at_ (.p b)=some x ↔ ∃ a,(a,b)∈kp.blocks∧ν.at_ a=some x:=by
 rw [kpNu_at]
 constructor
 ·rintro ⟨_,a,h1,h2⟩
  exact ⟨a,src_p h1,h2⟩
 ·rintro ⟨a,hm,h2⟩
  exact ⟨rfl,a,by simp only [Keep.src,find_blk hok hm]; rfl,h2⟩
theorem kpNu_ph (hok:kp.ok=true) {h:Hp} {b:Nat} {a:Id} (hm:(a,b)∈kp.blocks):(kpNu kp hok h ν).ph (.p b)=ν.ph a:=by
 simp only [kpNu,Keep.src,find_blk hok hm]
 have:kp.nils.any (fun p=>p.2.1.beq b)=false:=by
  rw [List.any_eq_false]
  exact fun q hq he=>nodupB_mem rfl (Keep.ok_iff.1 hok).2.1 b (List.mem_map.2 ⟨q,hq,beq_eq he⟩) (List.mem_map.2 ⟨(a,b),hm,rfl⟩)
 rw [this]
 simp
theorem kpNu_nil (hok:kp.ok=true) {h:Hp} {t b s:Nat} (hm:(t,b,s)∈kp.nils):(kpNu kp hok h ν).ph (.p b)=true∧(kpNu kp hok h ν).at_ (.p b)=none:=by
 have h1:(kpNu kp hok h ν).ph (.p b)=true:=by
  simp only [kpNu,Bool.or_eq_true]
  exact .inl (List.any_eq_true.2 ⟨_,hm,by simp⟩)
 refine ⟨h1,?_⟩
 cases h2:(kpNu kp hok h ν).at_ (.p b) with
 | none=>rfl
 | some x=>have:=(kpNu kp hok h ν).phx _ x h2; rw [h1] at this; cases this
def Keep.base (n:Nat) (kp:Keep):Bool:=Nat.ble n kp.nxt&&kp.blocks.all (fun p=>Nat.ble n p.2 || p.1.beq (.p p.2))&&kp.nils.all fun p=>Nat.ble n p.2.1
def Keep.all (n:Nat) (kp:Keep):Bool:=(List.range n).all fun b=>kp.blocks.any fun p=>p.1.beq (.p b)&&p.2.beq b
theorem posOf_iff : ∀ {l:List Nat} {x j:Nat},posOf l x=some j→l[j]? = some x
 | [],x,j,h=>by simp [posOf] at h
 | a::r,x,j,h=>by
  simp only [posOf,Clean.cond_beq] at h
  by_cases ha:a=x
  ·rw [if_pos ha] at h
   simp at h
   subst h
   simp [ha]
  ·rw [if_neg ha,Option.map_eq_some_iff] at h
   obtain ⟨i,h1,rfl⟩:=h
   simpa using posOf_iff h1
theorem renFs_cases {h:Hp} : ∀ (fs:List Fk) (x:Id),renFs h fs x = .drop ∨ ∃ f∈fs,
  (∃ a j,x = .p a∧f.take[j]? = some a∧renFs h fs x = .ren (.m f.to ((f.old h).length+j))) ∨
  (∃ B k g,x = .m B k∧f.of=some B∧getF h.fs B=some g∧g.s=f.s∧renFs h fs x = .ren (.m f.to k))
 | [],x => .inl (by cases x <;> rfl)
 | f::r,x=>by
  have rest:renFs h (f::r) x=renFs h r x→(renFs h (f::r) x = .drop ∨ ∃ f' ∈ f::r,
   (∃ a j,x = .p a∧f'.take[j]? = some a∧renFs h (f::r) x = .ren (.m f'.to ((f'.old h).length+j))) ∨
   (∃ B k g,x = .m B k∧f'.of=some B∧getF h.fs B=some g∧g.s=f'.s∧renFs h (f::r) x = .ren (.m f'.to k))):=fun he=>by
   rcases renFs_cases r x with h1 | ⟨f', hf', h1⟩
   ·exact .inl (he.trans h1)
   ·refine .inr ⟨f', by simp [hf'],?_⟩
    rw [he]
    exact h1
  cases x with
  | p a =>
   cases hp:posOf f.take a with
   | none=>exact rest (by simp only [renFs,hp])
   | some j=>exact .inr ⟨f,by simp,.inl ⟨a,j,rfl,posOf_iff hp,by simp only [renFs,hp]⟩⟩
  | m B k =>
   cases ho:f.of with
   | none=>exact rest (by simp only [renFs,ho])
   | some B' =>
    by_cases hB:B' = B
    ·subst hB
     cases hg:getF h.fs B' with
     | none=>exact .inl (by simp [renFs,ho,hg])
     | some g =>
      by_cases hs:g.s=f.s
      ·exact .inr ⟨f,by simp,.inr ⟨B', k,g,rfl,ho,hg,hs,by simp [renFs,ho,hg,hs]⟩⟩
      ·exact .inl (by simp [renFs,ho,hg,Clean.cond_beq,hs])
    ·exact rest (by simp [renFs,ho,Clean.cond_beq,hB])
theorem old_len {h:Hp} {f:Fk} {B:Nat} {g:Fam} (h1:f.of=some B) (h2:getF h.fs B=some g) (h3:g.s=f.s):f.old h=g.ms:=by
 simp [Fk.old,h1,h2,h3]
theorem ms_len {h:Hp} {f:Fk}:(f.ms h).length=(f.old h).length+f.take.length:=by simp [Fk.ms]
theorem keep_tr {h:Hp} (hok:kp.ok=true) (hk:HeapOK ν F h w):TrOK F F w ν (kpNu kp hok h ν) (kp.ren h):=by
 have hF:=famsOK_iff (Keep.ok_iff.1 hok).2.2.2.2.2
 intro b hb
 unfold Keep.ren
 rcases renOf_cases kp.blocks b with h0 | ⟨b', h0,hm⟩
 ·rw [h0]
  simp only
  rcases renFs_cases (h:=h) kp.fams b with h1 | ⟨f,hf,h1⟩
  ·rw [h1]; trivial
  ·have fin : ∀ k, renFs h kp.fams b = .ren (.m f.to k) → k < (f.ms h).length → kp.src h (.m f.to k) = some b → (match renFs h kp.fams b with
     | .drop=>True
     | .ren b' => (b'.lt (kpNu kp hok h ν).nxt (kpNu kp hok h ν).cnt∧((kpNu kp hok h ν).ph b' = true→ν.ph b=true)) ∧ ∀ y,(kpNu kp hok h ν).at_ b' = some y→ν.at_ b=some y
     | .frz s es=>(ν.ph b=true∧es=[]) ∨ ∃ r,ν.at_ b=some (r,s,es.length)∧F r∧RowsW (ri F w) w r 0 s es
     | .frzm es => ∃ r s n ents,ν.at_ b=some (r,s,n)∧F r∧w.heap[r]? = some (.map ents es.length)∧((es.all fun kv=>kv.1.closed&&kv.2.closed)=true→entsOK (ri F w) es ents)):=fun k hr hl hs=>by
    rw [hr]
    refine ⟨⟨?_,fun hq=>?_⟩,fun y hy=>?_⟩
    ·show k<kp.cnt h f.to
     unfold Keep.cnt
     rw [find_to_some hF hf]
     exact hl
    ·simp only [kpNu,hs,Bool.false_or] at hq
     simpa using hq
    ·rw [kpNu_at] at hy
     obtain ⟨_,a,h2,h3⟩:=hy
     rw [hs] at h2
     cases h2
     exact h3
   rcases h1 with ⟨a,j,rfl,h2,h3⟩ | ⟨B,k,g,rfl,h2,h3,h4,h5⟩
   ·refine fin _ h3 ?_ ?_
    ·rw [ms_len]
     have:=(List.getElem?_eq_some_iff.1 h2).1
     omega
    ·simp only [Keep.src,find_to_some hF hf]
     rw [if_neg (by omega),Nat.add_sub_cancel_left,h2]
     rfl
   ·have hkl:k<(f.old h).length:=by
     have h6:k<ν.cnt B:=hb
     rw [hk.cnt B] at h6
     simp only [famLen,h3] at h6
     rw [old_len h2 h3 h4]
     exact h6
    refine fin _ h5 (by rw [ms_len]; omega) ?_
    simp only [Keep.src,find_to_some hF hf]
    rw [if_pos hkl,h2]
    rfl
 ·rw [h0]
  refine ⟨⟨blt_of ((Keep.ok_iff.1 hok).2.2.1 _ hm),fun hq=>by rw [kpNu_ph hok hm] at hq; exact hq⟩,fun y hy=>?_⟩
  rw [kpNu_iff] at hy
  obtain ⟨a', ha', hy⟩:=hy
  have:=nodupB_inj (f:=fun p:Id×Nat=>p.2) (nodupB_right (Keep.ok_iff.1 hok).2.1) ha' hm rfl
  simp at this
  exact this ▸ hy
theorem takeB_some {h:Hp} {s a:Nat} {es:List (List V)} (ht:takeB h s a=some es):h.get (.p a)=some (.rows s true es):=by
 unfold takeB at ht
 split at ht
 ·rename_i s' es' hg
  cases hb:s'.beq s with
  | false=>rw [hb] at ht; simp at ht
  | true =>
   rw [hb] at ht
   simp at ht
   rw [← ht,← beq_eq hb]
   exact hg
 ·cases ht
theorem live_src {h:Hp} {B k:Nat} {f:Fk} (hf:kp.fams.find? (fun f=>f.to.beq B)=some f) {es:List (List V)} (hm:memb (f.ms h) k=some es) : ∃ a,kp.src h (.m B k)=some a∧h.get a=some (.rows f.s true es):=by
 have hm' : (f.ms h)[k]? = some (some es):=by
  unfold memb at hm
  exact Option.join_eq_some_iff.1 hm
 simp only [Keep.src,hf]
 unfold Fk.ms at hm'
 by_cases hk:k<(f.old h).length
 ·rw [if_pos hk]
  rw [List.getElem?_append_left hk] at hm'
  cases ho:f.of with
  | none=>simp [Fk.old,ho] at hk
  | some B0 =>
   refine ⟨.m B0 k,rfl,?_⟩
   simp only [Fk.old,ho] at hm' hk
   cases hg:getF h.fs B0 with
   | none=>simp [hg] at hk
   | some g =>
    rw [hg] at hm' hk
    cases hs:g.s.beq f.s with
    | false=>simp only [hs,cond_false] at hk; simp at hk
    | true =>
     simp only [hs,cond_true] at hm' hk
     have hmem:memb g.ms k=some es:=by
      unfold memb
      rw [hm']; rfl
     simp only [Hp.get,hg,hmem,Option.map_some,beq_eq hs]
 ·rw [if_neg hk]
  rw [List.getElem?_append_right (by omega),List.getElem?_map,Option.map_eq_some_iff] at hm'
  obtain ⟨a0,h1,h2⟩:=hm'
  exact ⟨.p a0,by rw [h1]; rfl,takeB_some h2⟩
theorem keep_heap {h:Hp} (hok:kp.ok=true) (hk:HeapOK ν F h w):HeapOK (kpNu kp hok h ν) F ⟨nilBs kp.nils++keepBs (kp.ren h) kp.pu h kp.blocks,kp.nxt,keepFs h kp.fams⟩ w ∧ ∀ r,(kpNu kp hok h ν).own r→ν.own r:=by
 obtain ⟨hn1,hn12,hlt,hnl,hsl,hfm⟩:=Keep.ok_iff.1 hok
 have hn2:=nodupB_right hn12
 have htr:TrOK F F w ν (kpNu kp hok h ν) (kp.ren h):=keep_tr hok hk
 have skip : ∀ {a:Id} {b:Nat},(a,b)∈kp.blocks→getB (nilBs kp.nils) b=none:=fun hm=>nilBs_none fun q hq he =>
  nodupB_mem rfl hn12 _ (List.mem_map.2 ⟨q,hq,he⟩) (List.mem_map.2 ⟨_,hm,rfl⟩)
 have ownr : ∀ r,(kpNu kp hok h ν).own r→ν.own r:=by
  rintro r ⟨b,s,n,hb⟩
  rw [kpNu_at] at hb
  obtain ⟨_,a', _,hb⟩:=hb
  exact ⟨a', s,n,hb⟩
 refine ⟨⟨?_,?_,?_,?_,rfl,fun B=>kp.cnt_eq h B⟩,ownr⟩
 ·intro b r s n hat
  cases b with
  | m B k =>
   rw [kpNu_at] at hat
   obtain ⟨hl,a,hs,hat⟩:=hat
   simp only [Keep.live] at hl
   cases hf:kp.fams.find? fun f=>f.to.beq B with
   | none=>simp [hf] at hl
   | some f =>
    rw [hf] at hl
    obtain ⟨es,he⟩:=Option.isSome_iff_exists.1 hl
    obtain ⟨a', hs', hg⟩:=live_src hf he
    rw [hs] at hs'
    cases hs'
    refine ⟨.rows f.s true es,?_,?_⟩
    ·simp only [Hp.get,keepFs_get,hf,Option.map_some,he]
    ·obtain ⟨rfl,g2,c,el,g3,g4,g5⟩:=hk.blkR hg hat
     exact ⟨rfl,g2,c,el,g3,g4,g5⟩
  | p b =>
  rw [kpNu_iff] at hat
  obtain ⟨a', ha', hat⟩:=hat
  obtain ⟨o,g1,g2⟩:=hk.blk a' r s n hat
  have hg:=keepBs_get (τ:=kp.ren h) (pu:=kp.pu) (h:=h) hn2 ha' g1
  have hg' : ∀ o,getB (keepBs (kp.ren h) kp.pu h kp.blocks) b=some o→Hp.get ⟨nilBs kp.nils++keepBs (kp.ren h) kp.pu h kp.blocks,kp.nxt,keepFs h kp.fams⟩ (.p b)=some o:=fun o ho=>by
   simp only [Hp.get,getB_append,skip ha', ho]
  cases o with
  | lp q =>
   obtain ⟨rec,k1,k2⟩:=g2
   exact ⟨_,hg' _ hg,rec,k1,k2.map (rep_tr (fun _ h=>h) htr)⟩
  | it x m seen =>
   obtain ⟨mr,k1,k2⟩:=g2
   exact ⟨_,hg' _ hg,mr,k1,rep_tr (fun _ h=>h) htr _ _ k2⟩
  | mp es =>
   obtain ⟨ents,k1,k2⟩:=g2
   refine ⟨_,hg' _ hg,ents,by rw [List.length_map]; exact k1,by simp [k2.1],fun i kv hi=>?_⟩
   rw [List.getElem?_map,Option.map_eq_some_iff] at hi
   obtain ⟨kv0,hi0,rfl⟩:=hi
   obtain ⟨e,e1,e2,e3,e4⟩:=k2.2 i kv0 hi0
   exact ⟨e,e1,e2,rep_tr (fun _ h=>h) htr _ _ e3,rep_tr (fun _ h=>h) htr _ _ e4⟩
  | rows s' p es =>
  obtain ⟨rfl,g2,c,el,g3,g4,g5⟩:=g2
  cases p with
  | true=>exact ⟨_,hg' _ hg,rfl,g2,c,el,g3,g4,g5⟩
  | false =>
   cases hpu:(kp.pu.any b.beq&&es.all closedL) with
   | true =>
    simp only [keepO,hpu,cond_true] at hg
    refine ⟨_,hg' _ hg,rfl,g2,c,el,g3,g4,?_⟩
    simp only [Bool.and_eq_true,List.all_eq_true] at hpu
    rw [rowsC_iff] at g5 ⊢
    intro i row hrow
    obtain ⟨k1,k2⟩:=g5 i row hrow
    refine ⟨k1,fun j v hj=>?_⟩
    obtain ⟨x,k3,k4,k5⟩:=k2 j v hj
    exact ⟨x,k3,k4,rep_ri v x (closedL_mem (hpu.2 row (List.mem_of_getElem? hrow)) (List.mem_of_getElem? hj)) k5⟩
   | false =>
   simp only [keepO,hpu,cond_false] at hg
   refine ⟨_,hg' _ hg,rfl,by simpa using g2,c,el,g3,g4,?_⟩
   rw [rowsC_iff] at g5 ⊢
   intro i row hrow
   rw [List.getElem?_map,Option.map_eq_some_iff] at hrow
   obtain ⟨row0,hrow0,rfl⟩:=hrow
   obtain ⟨k1,k2⟩:=g5 i row0 hrow0
   refine ⟨by rw [trL_length]; exact k1,fun j v hj=>?_⟩
   rw [trL_get,Option.map_eq_some_iff] at hj
   obtain ⟨v0,hv0,rfl⟩:=hj
   obtain ⟨x,k3,k4,k5⟩:=k2 j v0 hv0
   exact ⟨x,k3,k4,rep_tr (fun _ h=>h) htr v0 x k5⟩
 ·intro b o hb
  cases b with
  | m B k =>
   simp only [Hp.get,keepFs_get] at hb
   cases hf:kp.fams.find? fun f=>f.to.beq B with
   | none=>simp [hf] at hb
   | some f =>
    rw [hf] at hb
    simp only [Option.map_some,Option.map_eq_some_iff] at hb
    obtain ⟨es,he,rfl⟩:=hb
    obtain ⟨a,hs,hg⟩:=live_src hf he
    have hl:kp.live h (.m B k)=true:=by simp [Keep.live,hf,he]
    rcases hk.dom a _ hg with ⟨x,hx⟩ | ⟨hp,s,p,he'⟩
    ·exact .inl ⟨x,(kpNu_at hok).2 ⟨hl,a,hs,hx⟩⟩
    ·simp at he'
     refine .inr ⟨?_,f.s,true,by rw [he'.2.2]⟩
     simp only [kpNu,hs,Option.any_some,hp,Bool.or_true]
  | p b =>
  simp only [Hp.get,getB_append] at hb
  split at hb
  ·rename_i o' ho
   obtain ⟨t,s,hm,he⟩:=nilBs_get ho
   simp at hb
   exact .inr ⟨(kpNu_nil hok hm).1,s,true,by rw [← hb]; exact he⟩
  ·obtain ⟨a', o', h1,h2⟩:=keepBs_dom hb
   rcases hk.dom a' o' h2 with ⟨x,hx⟩ | ⟨hp,s,p,rfl⟩
   ·exact .inl ⟨x,(kpNu_iff hok).2 ⟨a', h1,hx⟩⟩
   ·have hg:=keepBs_get (τ:=kp.ren h) (pu:=kp.pu) (h:=h) hn2 h1 h2
    rw [hb] at hg
    simp at hg
    refine .inr ⟨by rw [kpNu_ph hok h1]; exact hp,?_⟩
    rw [hg]
    cases p with
    | true=>exact ⟨s,true,by simp [keepO]⟩
    | false=>cases hq:kp.pu.any b.beq <;> exact ⟨s,_,by simp only [keepO,hq]; rfl⟩
 ·intro b b' r s n s' n' h1 h2
  rw [kpNu_at] at h1 h2
  obtain ⟨_,a1,m1,h1⟩:=h1
  obtain ⟨_,a2,m2,h2⟩:=h2
  have:=hk.inj a1 a2 r s n s' n' h1 h2
  subst this
  exact src_inj hok m1 m2
 ·intro r hr
  exact ⟨(hk.frz r hr).1,fun ho=>(hk.frz r hr).2 (ownr r ho)⟩
theorem nilTs_mem : ∀ {l:List (Tmp×Nat×Nat)} {t:Tmp} {v:V},(t,v)∈nilTs l → ∃ b s,(t,b,s)∈l∧v = .sl (.p b) 0 0
 | [],t,v,h=>by simp [nilTs] at h
 | (t', b,s)::r,t,v,h=>by
  simp only [nilTs,List.mem_cons,Prod.mk.injEq] at h
  rcases h with ⟨rfl,rfl⟩ | h
  ·exact ⟨b,s,by simp,rfl⟩
  ·obtain ⟨b', s', h1,h2⟩:=nilTs_mem h
   exact ⟨b', s', by simp [h1],h2⟩
theorem keep_sound' (hok:kp.ok=true) (hnil : ∀ p∈kp.nils,isNilV (st.tm.get p.1)=true) (hst:StOK D G N ν F st a w):StOK D G N (kpNu kp hok st.h ν) F (kp.st st) a w ∧ ∀ r,(kpNu kp hok st.h ν).own r→ν.own r:=by
 obtain ⟨hn1,hn12,hlt,hnl,hsl,hfm⟩:=Keep.ok_iff.1 hok
 obtain ⟨hheap,hown⟩:=keep_heap hok hst.heap
 refine ⟨⟨hheap,hst.size,hst.defers,⟨fun t v ht=>?_,hst.slot.2⟩⟩,hown⟩
 have hm:=mkT_get _ (by
  intro p hp
  simp only [List.mem_append,List.mem_filterMap,Option.map_eq_some_iff] at hp
  rcases hp with hp | ⟨t,ht,v,_,rfl⟩
  ·obtain ⟨b,s,h1,_⟩:=nilTs_mem (t:=p.1) (v:=p.2) hp
   exact blt_of (hnl _ h1).2
  ·exact blt_of (hsl t ht)) t v ht
 simp only [List.mem_append,List.mem_filterMap,Option.map_eq_some_iff,Prod.mk.injEq] at hm
 rcases hm with hm | ⟨t', _,v0,hv0,rfl,rfl⟩
 ·obtain ⟨b,s,h1,rfl⟩:=nilTs_mem hm
  have hnv:=hnil _ h1
  simp only [isNilV] at hnv
  split at hnv
  ·rename_i heq
   obtain ⟨x,x1,x2⟩:=hst.slot.1 _ _ heq
   simp only [rep] at x2
   refine ⟨x,x1,?_⟩
   simp only [rep]
   refine ⟨⟨blt_of (hnl _ h1).1,fun _=>⟨trivial,trivial,x2⟩⟩,fun r s n hat=>?_⟩
   rw [(kpNu_nil hok h1).2] at hat; cases hat
  ·cases hnv
 ·obtain ⟨x,h1,h2⟩:=hst.slot.1 t' v0 hv0
  exact ⟨x,h1,rep_tr (fun _ h=>h) (keep_tr hok hst.heap) v0 x h2⟩
def resF (a:Act) (r:ResultVar):Sem Value:=match r with
 | .tmp t=>pure (a.tmps.getD t undef)
 | .cell b t=>do loadVar t (← asAddr (a.tmps.getD b undef))
theorem res1_sound {P:Program} (hst:StOK D G N ν F st a w) {r:ResultVar} {k:V→Prop} (h:wRes1 P st r k) :
  ∃ x v,k v∧rep F w ν v x∧(resF a r).run P w = .ok x w:=by
 cases r with
 | tmp t =>
  refine ⟨_,_,h,?_,rfl⟩
  exact ev_rep (a:=a) hst.slot (.tmp t)
 | cell b t =>
  simp only [wRes1] at h
  have hr:=ev_rep (a:=a) hst.slot (.tmp b)
  simp only [ev,Act.eval] at hr
  obtain ⟨row,off,p,r,o,hK,hy,hrow,hag⟩:=at_row hst.heap hr h
  obtain ⟨x,v,h1,h2,h3⟩:=load_row (P:=P) (fp:=blkOf ((st.tm.get b).getD .junk)) (fun v x hv=>repO_rep hv) hrow hag hK
  refine ⟨x,v,h1,h2,?_⟩
  have:=h3 w (Agree.refl _)
  simp only [resF,hy]
  simp [asAddr,this]
theorem resL_sound {P:Program} (hst:StOK D G N ν F st a w) : ∀ (rs:List ResultVar) (k:List V→Prop),wResL P st rs k →
  ∃ xs vs,k vs∧repL F w ν vs xs∧(rs.mapM (resF a)).run P w = .ok xs w
 | [],k,h=>⟨[],[],h,by simp [repL],by simp⟩
 | r::rs,k,h=>by
  simp only [wResL] at h
  obtain ⟨x,v,h1,h2,h3⟩:=res1_sound (P:=P) hst h
  obtain ⟨xs,vs,g1,g2,g3⟩:=resL_sound hst rs _ h1
  refine ⟨x::xs,v::vs,g1,?_,?_⟩
  ·simp only [repL]; exact ⟨x,xs,rfl,h2,g2⟩
  ·simp only [List.mapM_cons,Sem.run_bind,h3,Result.andThen_ok,g3]
   rfl
theorem res_sound {P:Program} {fn:Func} (hst:StOK D G N ν F st a w) {k:V→Prop} (h:wRes P fn.results st k) :
  ∃ x v,k v∧rep F w ν v x∧(results fn a.tmps).run P w = .ok x w:=by
 unfold wRes at h
 obtain ⟨xs,vs,h1,h2,h3⟩:=resL_sound (P:=P) hst _ _ h
 have hl:=repL_length h2
 refine ⟨(if hh:xs.toArray.size=1 then xs.toArray[0] else .tuple xs.toArray),oneOf vs,h1,?_,?_⟩
 ·cases vs with
  | nil =>
   simp only [oneOf,rep]
   rw [dif_neg (by simp [hl])]
   exact ⟨_,rfl,h2⟩
  | cons v vs =>
   cases vs with
   | nil =>
    simp only [repL] at h2
    obtain ⟨x,ys,rfl,h4,rfl⟩:=h2
    simp only [oneOf]
    simpa using h4
   | cons u us =>
    simp only [oneOf,rep]
    rw [dif_neg (by simp [hl])]
    exact ⟨_,rfl,h2⟩
 ·have hm : fn.results.mapM (resF a) =
    List.toArray <$> fn.results.toList.mapM (resF a):=by
   rw [← List.mapM_toArray]
  have hu:results fn a.tmps=(do let vs ← fn.results.mapM (resF a); pure (if h:vs.size=1 then vs[0] else .tuple vs)):=rfl
  rw [hu]
  simp only [hm,Sem.run_bind,Sem.run_map,h3,Result.andThen_ok]
  rfl
end
end Go.Proofs.YtkkgicjioajimaaDoor.Clean
namespace Go.Proofs.YtkkgicjioajimaaDoor.Clean
set_option linter.unusedSimpArgs false
set_option linter.unusedVariables false
section
variable {F:Nat→Prop} {w:World} {ν:Nu} {h:Hp}
def AllocOf (P:Program) (F:Nat→Prop) (ν:Nu) (w:World) (h:Hp) (c:Sem Next) (k:V→Hp→Prop):Prop :=
 ∃ (cs:Array Value) (e:TypeId) (s:Nat) (p:Bool) (es:List (List V)) (X:Nat→Value) (Y:Nat→V),
  (∀ w' : World,c.run P w' = .ok (.value (X w'.heap.size)) { w' with heap:=w'.heap.push (.cells cs e) })∧es.length * s≤cs.size∧rowsC (repO F w ν p) cs s es 0∧k (Y h.nxt) (h.add (.rows s p es)) ∧
  ∀ (ν' : Nu) (F' : Nat→Prop) (w' : World) (b r:Nat),b<ν'.nxt→ν'.ph (.p b)=false→(∀ x,ν'.at_ (.p b)=some x→x=(r,s,es.length))→w'.heap[r]? = some (.cells cs e (0,0))→rep F' w' ν' (Y b) (X r)
theorem rep_ptr0 {b r s n:Nat} (hb:b<ν.nxt) (hp:ν.ph (.p b)=false) (hat : ∀ x,ν.at_ (.p b)=some x→x=(r,s,n)):rep F w ν (.ptr (.p b) 0 0) (.pointer (some ⟨r,0,none⟩)):=by
 simp only [rep]
 refine ⟨⟨hb,hp⟩,fun r1 s1 n1 h1=>?_⟩
 have:=hat _ h1
 simp at this
 obtain ⟨rfl,rfl,rfl⟩:=this
 simp
theorem rep_sl0 {b r s n len cap:Nat} {c:Array Value} {e:TypeId} (hb:b<ν.nxt) (hp:ν.ph (.p b)=false) (hat : ∀ x,ν.at_ (.p b)=some x→x=(r,s,n)) (hl:len≤n) (hlc:len≤cap) (hc:w.heap[r]? = some (.cells c e (0,0))) (hs:cap * s≤c.size) :
  rep F w ν (.sl (.p b) 0 len) (.slice (some ⟨r,0,none⟩) len cap):=by
 simp only [rep]
 refine ⟨⟨hb,fun hq=>by rw [hp] at hq; cases hq⟩,fun r1 s1 n1 h1=>?_⟩
 have:=hat _ h1
 simp at this
 obtain ⟨rfl,rfl,rfl⟩:=this
 exact ⟨by omega,cap,hlc,by simp,c,e,(0,0),hc,by simpa using hs⟩
theorem alloc_row {P:Program} (hk:HeapOK ν F h w) {cs:List V} {x:Array Value} {t:TypeId} {k:V→Hp→Prop} (hr:repL F w ν cs x.toList) (ho:allOne h cs=true)
  (hK:k (.ptr (.p h.nxt) 0 0) (h.add (.rows cs.length false [cs]))) {c:Sem Next} (hc : ∀ w' : World,c.run P w' = .ok (.value (.pointer (some ⟨w'.heap.size,0,none⟩))) { w' with heap:=w'.heap.push (.cells x t) }) :
  AllocOf P F ν w h c k:=by
 have hl:=repL_length hr
 exact ⟨x,t,cs.length,false,[cs],fun r => .pointer (some ⟨r,0,none⟩),fun b => .ptr (.p b) 0 0,hc,by simp at hl ⊢; omega,rowsC_one (cellsC_of_repL hk hr ho),hK,fun ν' F' w' b r hb hp hat _=>rep_ptr0 hb hp hat⟩
theorem alloc_op {P:Program} {C:Calling} {o:Oper} {ρV:Operand→V} {ρ:Operand→Value} (hρ : ∀ x,rep F w ν (ρV x) (ρ x)) (hk:HeapOK ν F h w) {k:V→Hp→Prop} (ha:allocOp o.op=true) (hh:wop P C ρV h o.type o.op k) :
  AllocOf P F ν w h (execOp ρ o) k:=by
 obtain ⟨dst,op,type,pos,after,guard⟩:=o
 cases op <;> simp only [allocOp,Bool.false_eq_true] at ha <;> simp only [wop] at hh <;> simp only [execOp]
 case alloc t =>
  simp only [onSome_iff,guardB_iff,zeroRow,Option.bind_eq_some_iff] at hh
  obtain ⟨inf,hi,cs,⟨z,hz,hcs⟩,ho,hK⟩:=hh
  exact alloc_row hk (x:=z.cells) (t:=t) (riL_repL _ _ (ofValue_cells hcs ho).1) ho hK (fun w' => by simp [Instr.alloc,zeroValue,typeInfo,hi,hz,newVar,newRow_run])
 case box t x =>
  simp only [onSome_iff,guardB_iff] at hh
  obtain ⟨cs,hcs,ho,hK⟩:=hh
  exact alloc_row hk (x:=(ρ x).cells) (t:=t) (rep_cells (hρ x) hcs hk ho) ho hK (fun w' => by simp [Instr.box,newVar,newRow_run])
 case buildSlice t len parts =>
  unfold wBuildSlice at hh
  rw [onSome_iff] at hh
  obtain ⟨d,hd,hh⟩:=hh
  split at hh
  ·rename_i e
   simp only [onSome_iff,guardB_iff,Bool.and_eq_true,zeroRow,Option.bind_eq_some_iff] at hh
   obtain ⟨inf,hi,z,⟨x,hx,hz⟩,⟨⟨hl,ho⟩,hle⟩,hf⟩:=hh
   have hl:=beq_eq hl
   have hle:=Nat.le_of_ble_eq_true hle
   obtain ⟨hzc,hzs⟩:=ofValue_cells (F:=F) (w:=w) hz ho
   have h0:=zero_rows hzc hzs (one_of_all hk hzc ho hzs) len (if len * z.length=0 then #[] else x.cells) (fun hne=>by rw [if_neg hne])
   obtain ⟨es', c', q1,q2,q3,q4,q5⟩:=fill_rows hρ hk (p:=partsClosed (parts.toList.map fun p=>(p.1,ρV p.2))) (s:=z.length) parts.toList _ _ (rowsC_ri h0) (by simp) (by rw [hl]; exact hf)
   have hlen:es'.length=len:=by rw [q5]; simp
   refine ⟨c', e,inf.size,_,es', fun r => .slice (some ⟨r,0,none⟩) len len,fun b => .sl (.p b) 0 len,fun w' => ?_,by rw [← hl]; omega,by rw [← hl]; exact q3,q1,fun ν' F' w' b r hb hp hat hc=>rep_sl0 hb hp hat (by omega) (Nat.le_refl _) hc (by rw [q4,hlen,← hl]; simp)⟩
   have hmul : ¬ (16777216<len * inf.size):=by omega
   have hq2:=q2
   rw [hl] at hq2
   by_cases hz0:len * inf.size=0
   ·simp only [hz0,if_true] at hq2
    simp [Instr.buildSlice,run_underlying hd,sizeOf,typeInfo,hi,hz0,hmul]
    simp at hq2
    rw [hq2]
    simp [newRow_run]
   ·simp only [hz0,if_false] at hq2
    simp [Instr.buildSlice,run_underlying hd,sizeOf,typeInfo,zeroValue,hi,hx,hz0,hmul]
    rw [hq2]
    simp [newRow_run]
  ·exact hh.elim
 case makeSlice t l c =>
  have hl:=hρ l
  have hc:=hρ c
  unfold wMakeSlice at hh
  split at hh
  ·rename_i kl l' kc c' hlv hcv
   rw [hlv] at hl
   rw [hcv] at hc
   simp only [rep] at hl hc
   simp only [onNat_iff,onSome_iff] at hh
   obtain ⟨n,rfl,m,rfl,d,hd,hh⟩:=hh
   split at hh
   ·rename_i e
    simp only [onSome_iff,guardB_iff,need_iff,Bool.and_eq_true,zeroRow,Option.bind_eq_some_iff] at hh
    obtain ⟨inf,hi,z,⟨x,hx,hz⟩,⟨hzl,ho⟩,hnm,hby,h63,hK⟩:=hh
    have hzl:=beq_eq hzl
    obtain ⟨hzc,hzs⟩:=ofValue_cells (F:=F) (w:=w) hz ho
    have hby' : (inf.bytes:Int) * (m:Int)≤281474976710656:=by
     have h1:((inf.bytes * m:Nat):Int)≤281474976710656:=by omega
     rwa [Int.natCast_mul] at h1
    have h0:=zero_rows hzc hzs (one_of_all hk hzc ho hzs) m x.cells (fun _=>rfl)
    have h1:rowsC (repO F w ν (flatZ z)) (madeCells x.cells (m * inf.size)) inf.size (List.replicate n z) 0:=by
     rw [hzl] at h0
     rw [rowsC_iff] at h0 ⊢
     intro i row hrow
     rw [List.getElem?_replicate] at hrow
     split at hrow
     ·obtain ⟨ha,hb⟩:=h0 i row (by rw [List.getElem?_replicate,if_pos (by omega)]; exact hrow)
      exact ⟨ha,fun j v hj=>by obtain ⟨y,hy,h1,hr⟩:=hb j v hj; exact ⟨y,hy,h1,repO_ri hr⟩⟩
     ·simp at hrow
    refine ⟨madeCells x.cells (m * inf.size),e,inf.size,flatZ z,List.replicate n z,fun r => .slice (some ⟨r,0,none⟩) n m,fun b => .sl (.p b) 0 n,fun w' => ?_,by rw [size_madeCells,List.length_replicate]; exact Nat.mul_le_mul_right _ hnm,h1,hK,
     fun ν' F' w' b r hb hp hat hc=>rep_sl0 hb hp hat (by simp) hnm hc (by rw [size_madeCells]; exact Nat.le_refl _)⟩
    have hrun:=run_make (P:=P) w' t e inf x hd hi hx kl kc n m (by omega) (by omega) hby' (by omega)
    simp only [Int.toNat_natCast] at hrun
    rw [hl,hc]
    simp only [Sem.run_bind,hrun,Result.andThen_ok,Sem.run_pure]
    rfl
   ·exact hh.elim
  ·exact hh.elim
mutual
theorem rep_add {r s n:Nat} : ∀ (v:V) (x:Value),rep F w ν v x→rep F w (ν.add r s n) v x
 | .raw v,x,h=>by simp only [rep] at h ⊢; exact h
 | .ptr b i off,x,hr=>by
  simp only [rep] at hr ⊢
  refine ⟨⟨Id.lt_le hr.1.1 (Nat.le_succ _),by simp only [Nu.add]; rw [if_neg (Id.ne_new hr.1.1)]; exact hr.1.2⟩,fun r' s' n' hb=>hr.2 r' s' n' ?_⟩
  simp only [Nu.add] at hb
  rwa [if_neg (Id.ne_new hr.1.1)] at hb
 | .mp b,x,hr=>by
  simp only [rep] at hr ⊢
  refine ⟨Id.lt_le hr.1 (Nat.le_succ _),fun r' s' n' hb=>hr.2 r' s' n' ?_⟩
  simp only [Nu.add] at hb
  rwa [if_neg (Id.ne_new hr.1)] at hb
 | .yl b,x,hr=>by
  simp only [rep] at hr ⊢
  refine ⟨Id.lt_le hr.1 (Nat.le_succ _),fun r' s' n' hb=>hr.2 r' s' n' ?_⟩
  simp only [Nu.add] at hb
  rwa [if_neg (Id.ne_new hr.1)] at hb
 | .sla b i off len,x,hr=>by
  simp only [rep] at hr ⊢
  refine ⟨⟨Id.lt_le hr.1.1 (Nat.le_succ _),by simp only [Nu.add]; rw [if_neg (Id.ne_new hr.1.1)]; exact hr.1.2⟩,fun r' s' n' hb=>hr.2 r' s' n' ?_⟩
  simp only [Nu.add] at hb
  rwa [if_neg (Id.ne_new hr.1.1)] at hb
 | .sl b lo len,x,hr=>by
  simp only [rep] at hr ⊢
  refine ⟨⟨Id.lt_le hr.1.1 (Nat.le_succ _),fun hq=>hr.1.2 (by simp only [Nu.add] at hq; rwa [if_neg (Id.ne_new hr.1.1)] at hq)⟩,fun r' s' n' hb=>hr.2 r' s' n' ?_⟩
  simp only [Nu.add] at hb
  rwa [if_neg (Id.ne_new hr.1.1)] at hb
 | .lst s es,x,hr=>by simp only [rep] at hr ⊢; exact hr
 | .lsx s es,x,hr=>by simp only [rep] at hr ⊢; exact hr
 | .adr cs off,x,hr=>by simp only [rep] at hr ⊢; exact hr
 | .fmp es,x,hr=>by simp only [rep] at hr ⊢; exact hr
 | .agg cs,x,hr=>by
  simp only [rep] at hr ⊢
  obtain ⟨vs,h1,h2⟩:=hr
  exact ⟨vs,h1,repL_add cs _ h2⟩
 | .tup cs,x,hr=>by
  simp only [rep] at hr ⊢
  obtain ⟨vs,h1,h2⟩:=hr
  exact ⟨vs,h1,repL_add cs _ h2⟩
 | .fn f a c,x,hr=>by
  simp only [rep] at hr ⊢
  obtain ⟨as,cs,h1,h2,h3⟩:=hr
  exact ⟨as,cs,h1,repL_add a _ h2,repL_add c _ h3⟩
 | .junk,_,_=>by simp only [rep]
theorem repL_add {r s n:Nat} : ∀ (vs:List V) (xs:List Value),repL F w ν vs xs→repL F w (ν.add r s n) vs xs
 | [],xs,hr=>by simp only [repL] at hr ⊢; exact hr
 | v::vs,xs,hr=>by
  simp only [repL] at hr ⊢
  obtain ⟨x,ys,h1,h2,h3⟩:=hr
  exact ⟨x,ys,h1,rep_add v x h2,repL_add vs ys h3⟩
end
theorem rowsC_add {r s' n:Nat} {p:Bool} {c:Array Value} {s o:Nat} {es:List (List V)} (h1:rowsC (repO F w ν p) c s es o):rowsC (repO F w (ν.add r s' n) p) c s es o:=by
 rw [rowsC_iff] at h1 ⊢
 intro i row hrow
 obtain ⟨g1,g2⟩:=h1 i row hrow
 refine ⟨g1,fun j v hj=>?_⟩
 obtain ⟨x,g3,g4,g5⟩:=g2 j v hj
 refine ⟨x,g3,g4,?_⟩
 unfold repO at g5 ⊢
 cases p
 ·exact rep_add v x g5
 ·exact g5
theorem obl_add {r0 s0 n0 r s n:Nat} {o:O} (ho:Obl F w ν r s n o):Obl F w (ν.add r0 s0 n0) r s n o:=by
 cases o with
 | rows s' p es =>
  obtain ⟨h1,h2,c,el,h3,h4,h5⟩:=ho
  exact ⟨h1,h2,c,el,h3,h4,rowsC_add h5⟩
 | lp q =>
  obtain ⟨rec,h1,h2⟩:=ho
  exact ⟨rec,h1,h2.mono rep_add⟩
 | it x m seen =>
  obtain ⟨mr,h1,h2⟩:=ho
  exact ⟨mr,h1,rep_add _ _ h2⟩
 | mp es =>
  obtain ⟨ents,h1,h2,h3⟩:=ho
  exact ⟨ents,h1,h2,fun i kv hi=>let ⟨e,g1,g2,g3,g4⟩:=h3 i kv hi; ⟨e,g1,g2,rep_add _ _ g3,rep_add _ _ g4⟩⟩
theorem heap_adopt (k:HeapOK ν F h w) {p:Bool} {s:Nat} {es:List (List V)} {c:Array Value} {el:TypeId} {r:Nat} (hc:w.heap[r]? = some (.cells c el (0,0))) (hno : ¬ν.own r) (hnf : ¬F r) (hn:es.length * s≤c.size)
  (hr:rowsC (repO F w ν p) c s es 0):HeapOK (ν.add r s es.length) F (h.add (.rows s p es)) w:=by
 refine ⟨?_,?_,?_,?_,by simp only [Nu.add,Hp.add,k.nxt],k.cnt⟩
 ·intro b r' s' n' hb
  simp only [Nu.add] at hb
  rw [Hp.get_add,← k.nxt]
  by_cases hb0:b = .p ν.nxt
  ·rw [if_pos hb0] at hb
   simp at hb
   obtain ⟨rfl,rfl,rfl⟩:=hb
   exact ⟨.rows s p es,by rw [if_pos hb0],rfl,rfl,c,el,hc,hn,rowsC_add hr⟩
  ·rw [if_neg hb0] at hb
   obtain ⟨o,g1,g2⟩:=k.blk b r' s' n' hb
   exact ⟨o,by rw [if_neg hb0]; exact g1,obl_add g2⟩
 ·intro b o hb
  rw [Hp.get_add,← k.nxt] at hb
  simp only [Nu.add]
  by_cases hb0:b = .p ν.nxt
  ·exact .inl ⟨_,by rw [if_pos hb0]⟩
  ·rw [if_neg hb0] at hb ⊢; rw [if_neg hb0]; exact k.dom b o hb
 ·intro b b' r' s1 n1 s2 n2 h1 h2
  simp only [Nu.add] at h1 h2
  by_cases hb0:b = .p ν.nxt
  ·by_cases hb1:b' = .p ν.nxt
   ·rw [hb0,hb1]
   ·rw [if_pos hb0] at h1; rw [if_neg hb1] at h2; simp at h1; rw [← h1.1] at h2; exact (hno ⟨_,_,_,h2⟩).elim
  ·by_cases hb1:b' = .p ν.nxt
   ·rw [if_neg hb0] at h1; rw [if_pos hb1] at h2; simp at h2; rw [← h2.1] at h1; exact (hno ⟨_,_,_,h1⟩).elim
   ·rw [if_neg hb0] at h1; rw [if_neg hb1] at h2; exact k.inj b b' r' s1 n1 s2 n2 h1 h2
 ·intro r' hr'
  refine ⟨(k.frz r' hr').1,?_⟩
  rintro ⟨b,s', n', hb⟩
  simp only [Nu.add] at hb
  by_cases hb0:b = .p ν.nxt
  ·rw [if_pos hb0] at hb; simp at hb; exact hnf (hb.1 ▸ hr')
  ·rw [if_neg hb0] at hb; exact (k.frz r' hr').2 ⟨b,s', n', hb⟩
theorem own_add {r s n r' : Nat} (h1 : ¬ν.own r') (h2:r' ≠ r) : ¬(ν.add r s n).own r' := by
 rintro ⟨b,s', n', hb⟩
 simp only [Nu.add] at hb
 by_cases hb0:b = .p ν.nxt
 ·rw [if_pos hb0] at hb; simp at hb; exact h2 hb.1.symm
 ·rw [if_neg hb0] at hb; exact h1 ⟨b,s', n', hb⟩
theorem evoU_adopt {U:Id→Bool} {ν0:Nu} {F0:Nat→Prop} {w0:World} {r s n:Nat} (he:EvoU U ν0 F0 w0 ν F w) (hr:w0.heap.size≤r):EvoU U ν0 F0 w0 (ν.add r s n) F w:=by
 obtain ⟨e,hu⟩:=he
 have hat : ∀ b x,b.lt ν0.nxt ν0.cnt→(ν.add r s n).at_ b=some x→ν.at_ b=some x:=fun b x hb hx=>by
  simp only [Nu.add] at hx
  rwa [if_neg (Id.ne_new (e.lt hb))] at hx
 refine ⟨⟨e.os,e.tape,e.output,e.size,e.old,e.fmono,e.fnew,?_,fun b x hb hx=>e.keep b x hb (hat b x hb hx),Nat.le_trans e.nxt (by simp [Nu.add]),e.cnt,fun b hb hx=>e.kph b hb (by
  simp only [Nu.add] at hx
  rwa [if_neg (Id.ne_new (e.lt hb))] at hx),fun b r s n hb hb' => e.len b r s n hb (hat b _ (ν0.lt b _ hb) hb'),by first | exact Nat.le_refl _ | exact e.drawn | (subst_vars; exact Nat.le_refl _)⟩,
  fun b y hy hb=>⟨(hu b y hy hb).1,Nu.add_old (hu b y hy hb).2⟩⟩
 rintro r' ⟨b,s', n', hb⟩
 simp only [Nu.add] at hb
 by_cases hb0:b = .p ν.nxt
 ·rw [if_pos hb0] at hb; simp at hb; exact .inr (hb.1 ▸ hr)
 ·rw [if_neg hb0] at hb; exact e.onew r' ⟨b,s', n', hb⟩
theorem heap_grow {w' : World} (k:HeapOK ν F h w) (o:Obj) (hw:w' = { w with heap:=w.heap.push o }):HeapOK ν F h w' ∧ Evo ν F w ν F w' := by
 have hpush : ∀ r,r<w.heap.size→w'.heap[r]? = w.heap[r]? := fun r hlt=>by
  subst hw; show (w.heap.push _)[r]? = _; rw [Array.getElem?_push,if_neg (by omega)]
 have hsize:w'.heap.size=w.heap.size+1:=by subst hw; simp
 have e:Evo ν F w ν F w' := ⟨by rw [hw],by rw [hw],by rw [hw],by omega,fun r hlt _=>hpush r hlt,fun _ h=>h,fun _ h => .inl h,fun _ h => .inl h,fun _ _ _ h=>h,Nat.le_refl _,fun _=>Nat.le_refl _,fun _ _ h=>h,
  fun b r s n hb _ c e fr hc=>⟨c,by rw [hpush r (lt_of_some hc)]; exact hc,rfl⟩,by first | exact Nat.le_refl _ | exact e.drawn | (subst_vars; exact Nat.le_refl _)⟩
 refine ⟨⟨fun b r s n hb=>?_,k.dom,k.inj,fun r hr=>⟨by have:=(k.frz r hr).1; omega,(k.frz r hr).2⟩,k.nxt,k.cnt⟩,e⟩
 obtain ⟨o,g1,g2⟩:=k.blk b r s n hb
 exact ⟨o,g1,obl_evo k e (hpush r (k.at_lt hb)) g2⟩
end
end Go.Proofs.YtkkgicjioajimaaDoor.Clean
