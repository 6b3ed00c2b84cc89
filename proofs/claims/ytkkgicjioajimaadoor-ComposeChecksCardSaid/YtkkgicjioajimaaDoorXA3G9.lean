/- A part of the proof. -/
import Derived.Test.YtkkgicjioajimaaDoorProg
import Derived.Test.YtkkgicjioajimaaDoorXA3G1
import Derived.Test.YtkkgicjioajimaaDoorXA3G7
import Derived.Test.YtkkgicjioajimaaDoorXA3G8
namespace Go.Proofs.YtkkgicjioajimaaDoor.Clean
noncomputable def WY0 (P:Program) (cfg:Cfg) (fuel:Nat) (f:FuncId) (fn:Func) (args:List V) (R:V→Prop):Prop :=
 match fn.body with
 | some c=>guardB (Nat.ble args.length fn.ntmps&&Nat.ble args.length 1000) (WY P cfg fuel ⟨⟨0,[]⟩,0,none,fn.ntmps,f,0⟩ c (QendX P fn fun v h=>R (frzW h v)) ⟨start args,⟨[],0,[]⟩⟩)
 | none=>False
theorem K0_of_WY0 {P:Program} (hm:P.follows .mixedOrders=true) {cfg:Cfg} (hcf:cfg.ok P) (fuel:Nat) {f:FuncId} {fn:Func} (hf:P.funcs[f]? = some fn) {args:List V} {R:V→Prop} (h:WY0 P cfg fuel f fn args R):K0G P cfg.glob f args R:=by
 unfold WY0 at h
 split at h
 ·rename_i c hc
  rw [guardB_iff] at h
  exact K0_of_WY hm hcf fuel hf hc h.1 h.2
 ·exact h.elim
theorem La.of {nb:Nat} {slots:List Tmp} {B:Post→St→Prop} {Q:Post} {st:St} {σ:Type} (sh:σ→St) (I:σ→Prop) (μ:σ→Nat) (s0:σ) (h0:st=sh s0) (hI:I s0)
  (round : ∀ s,I s → ∀ J:St→Prop,(∀ s', I s' → μ s' < μ s→J (sh s'))→B (Qla nb slots J Q) (sh s)):La nb slots B Q st:=by
 refine ⟨fun J hJ=>?_⟩
 subst h0
 have key : ∀ n s,μ s<n→I s→J (sh s):=by
  intro n
  induction n with
  | zero=>intro s h; omega
  | succ n ih =>
   intro s hs hI
   exact hJ _ (round s hI J fun s' hI' hlt=>ih s' (by omega) hI')
 exact key _ s0 (Nat.lt_succ_self _) hI
def inN:List Nat→Nat→Bool
 | [],_=>false
 | a::r,x=>Nat.beq a x || inN r x
def slotsOf:List (Nat×Nat×List Tmp)→FuncId→Nat→Option (List Tmp)
 | [],_,_=>none
 | (f,c,l)::r,g,d=>bif Nat.beq f g&&Nat.beq c d then some l else slotsOf r g d
abbrev Us:=List (List (List V))
def back1:List (Id×Nat)→Nat→Tr
 | [],_ => .drop
 | (a,b)::r,i=>bif b.beq i then .ren a else back1 r i
def backT (bs:List (Id×Nat)) (n m:Nat):Id→Tr
 | .p i=>bif Nat.blt i n then back1 bs i else .ren (.p (m+(i - n)))
 | .m _ _ => .drop
noncomputable def backO (τ:Id→Tr):O→O
 | .rows s true es => .rows s true es
 | .rows s false es => .rows s false (es.map (trL τ))
 | .mp es => .mp (es.map fun kv=>(kv.1.tr τ,kv.2.tr τ))
 | .lp q => .lp (q.mapV (V.tr τ))
 | .it x n seen => .it (x.tr τ) n seen
noncomputable def backBs (τ:Id→Tr):List (Nat×O)→List (Nat×O)
 | []=>[]
 | (i,o)::r=>match τ (.p i) with
  | .ren (.p b)=>(b,backO τ o)::backBs τ r
  | _=>backBs τ r
def pureOf:Option O→Option (List (List V))
 | some (.rows _ true es)=>some es
 | _=>none
def mergeFs (h1:Hp):List (Id×Nat)→List (Nat×Fam)→List (Nat×Fam)
 | [],fs=>fs
 | (.m B k,i)::r,fs=>setF (mergeFs h1 r fs) B k (pureOf (getB h1.bs i))
 | (.p _,_)::r,fs=>mergeFs h1 r fs
def mfit (h:Hp) (h1:Hp) (bs:List (Id×Nat)):Bool:=h1.fs.isEmpty&&bs.all fun p=>match p.1 with
 | .p _=>true
 | .m B _=>match getF h.fs B with
  | some f=>match getB h1.bs p.2 with
   | some (.rows s true _)=>s.beq f.s
   | some _=>false
   | none=>true
  | none=>false
noncomputable def mergeH (h:Hp) (kp:Keep) (h1:Hp):Hp:=⟨backBs (backT kp.blocks kp.nxt h.nxt) h1.bs++(delAll h (kp.blocks.map (·.1))).bs,h.nxt+(h1.nxt - kp.nxt),mergeFs h1 kp.blocks h.fs⟩
noncomputable def lentH (h:Hp) (kp:Keep):Hp:=⟨keepBs (renOf kp.blocks) [] h kp.blocks,kp.nxt,[]⟩
def bsOK (h:Hp):Bool:=h.bs.all fun p=>Nat.blt p.1 h.nxt
def typedR (P:Program) (t:Option TypeId) (v:V) (k:V→Prop):Prop:=match t with | some t=>typedT P false t v k | none=>k v
set_option linter.unusedSimpArgs false
set_option linter.unusedVariables false
theorem renOf_mem : ∀ {bs:List (Id×Nat)} {a:Id} {i:Nat},nodupI (bs.map (·.1))=true→(a,i)∈bs→renOf bs a = .ren (.p i)
 | [],a,i,_,h=>by simp at h
 | (c,j)::r,a,i,hn,h=>by
  simp only [renOf,Id.cond_beq]
  by_cases hc:c=a
  ·subst hc
   rw [if_pos rfl]
   have:=nodupI_inj (f:=fun p:Id×Nat=>p.1) hn h (List.mem_cons_self) rfl
   simp at this
   rw [this]
  ·rw [if_neg hc]
   refine renOf_mem ?_ ((List.mem_cons.1 h).resolve_left (fun he=>hc (by simp at he; exact he.1.symm)))
   simp only [List.map_cons,nodupI,Bool.and_eq_true] at hn
   exact hn.2
theorem renOf_none {bs:List (Id×Nat)} {a:Id} (h : ∀ i,(a,i) ∉ bs):renOf bs a = .drop:=by
 rcases renOf_cases bs a with h' | ⟨i,_,hm⟩
 ·exact h'
 ·exact (h i hm).elim
theorem back1_mem : ∀ {bs:List (Id×Nat)} {a:Id} {i:Nat},nodupB (bs.map (·.2))=true→(a,i)∈bs→back1 bs i = .ren a
 | [],a,i,_,h=>by simp at h
 | (c,j)::r,a,i,hn,h=>by
  simp only [back1,cond_beq]
  by_cases hc:j=i
  ·subst hc
   rw [if_pos rfl]
   have:=nodupB_inj (f:=fun p:Id×Nat=>p.2) hn h (List.mem_cons_self) rfl
   simp at this
   rw [this]
  ·rw [if_neg hc]
   refine back1_mem ?_ ((List.mem_cons.1 h).resolve_left (fun he=>hc (by simp at he; exact he.2.symm)))
   simp only [List.map_cons,nodupB,Bool.and_eq_true] at hn
   exact hn.2
theorem back1_cases : ∀ (bs:List (Id×Nat)) (i:Nat),back1 bs i = .drop ∨ ∃ a,back1 bs i = .ren a∧(a,i)∈bs
 | [],i => .inl rfl
 | (c,j)::r,i=>by
  simp only [back1,cond_beq]
  by_cases hc:j=i
  ·subst hc; rw [if_pos rfl]; exact .inr ⟨c,rfl,by simp⟩
  ·rw [if_neg hc]
   rcases back1_cases r i with h | ⟨a,h1,h2⟩
   ·exact .inl h
   ·exact .inr ⟨a,h1,by simp [h2]⟩
theorem backBs_get {τ:Id→Tr} {i b:Nat} (hi:τ (.p i) = .ren (.p b)) (hinj : ∀ j,τ (.p j) = .ren (.p b)→j=i) : ∀ (l:List (Nat×O)),getB (backBs τ l) b=(getB l i).map (backO τ)
 | []=>rfl
 | (k,o)::r=>by
  have ih:=backBs_get hi hinj r
  rw [getB_cons]
  by_cases hk:k=i
  ·subst hk
   simp [backBs,hi,getB_cons]
  ·rw [if_neg hk]
   simp only [backBs]
   split
   ·rename_i b' hb'
    rw [getB_cons,if_neg (fun he:b' = b=>hk (hinj k (by rw [← he]; exact hb'))),ih]
   ·exact ih
theorem backBs_none {τ:Id→Tr} {b:Nat} (h : ∀ j,τ (.p j) ≠ .ren (.p b)) : ∀ (l:List (Nat×O)),getB (backBs τ l) b=none
 | []=>rfl
 | (k,o)::r=>by
  have ih:=backBs_none h r
  simp only [backBs]
  split
  ·rename_i b' hb'
   rw [getB_cons,if_neg (fun he:b' = b=>h k (by rw [← he]; exact hb')),ih]
  ·exact ih
theorem getB_memM : ∀ {l:List (Nat×O)} {b:Nat} {o:O},getB l b=some o→(b,o)∈l
 | [],b,o,h=>by simp [getB] at h
 | (k,o')::r,b,o,h=>by
  rw [getB_cons] at h
  by_cases hk:k=b
  ·rw [if_pos hk] at h; simp at h; subst hk; subst h; simp
  ·rw [if_neg hk] at h; exact List.mem_cons_of_mem _ (getB_memM h)
theorem get_delAll : ∀ (l:List Id) (h:Hp) (b:Id),(delAll h l).get b=if b∈l then none else h.get b
 | [],h,b=>by simp [delAll]
 | c::r,h,b=>by
  simp only [delAll]
  rw [get_delAll r,Hp.get_del]
  by_cases hr:b∈r
  ·simp [hr]
  ·by_cases hc:b=c
   ·simp [hc]
   ·simp [hr,hc]
def getM (fs:List (Nat×Fam)) (B k:Nat):Option (Nat×List (List V)):=match getF fs B with | some f=>(memb f.ms k).map fun es=>(f.s,es) | none=>none
theorem get_getM {h:Hp} {B k:Nat}:h.get (.m B k)=(getM h.fs B k).map fun p => .rows p.1 true p.2:=by
 simp only [Hp.get,getM]
 cases getF h.fs B with
 | none=>rfl
 | some f=>simp only; cases memb f.ms k <;> rfl
theorem getM_setF {fs:List (Nat×Fam)} {B k:Nat} {x:Option (List (List V))} {B' k' : Nat} (hk:k<famLen fs B):getM (setF fs B k x) B' k' = if B' = B∧k' = k then (match getF fs B with | some f=>x.map fun es=>(f.s,es) | none=>none) else getM fs B' k' := by
 unfold getM
 rw [getF_setF]
 by_cases hB:B' = B
 ·subst hB
  rw [if_pos rfl]
  cases hf:getF fs B' with
  | none=>simp
  | some f =>
   have hk:k<f.ms.length:=by simpa [famLen,hf] using hk
   simp only [Option.map_some,memb_set _ _ _ _ hk,true_and]
   by_cases hkk:k' = k
   ·simp [hkk]
   ·simp [hkk]
 ·simp [hB]
theorem mergeFs_len {h1:Hp} : ∀ (bs:List (Id×Nat)) (fs:List (Nat×Fam)) (B:Nat),famLen (mergeFs h1 bs fs) B=famLen fs B
 | [],fs,B=>rfl
 | (.m _ _,i)::r,fs,B=>by simp only [mergeFs]; rw [setF_cnt]; exact mergeFs_len r fs B
 | (.p _,_)::r,fs,B=>by simp only [mergeFs]; exact mergeFs_len r fs B
theorem mergeFs_s {h1:Hp} : ∀ (bs:List (Id×Nat)) (fs:List (Nat×Fam)) (B:Nat),(getF (mergeFs h1 bs fs) B).map (·.s)=(getF fs B).map (·.s)
 | [],fs,B=>rfl
 | (.m B0 k,i)::r,fs,B=>by
  simp only [mergeFs]
  rw [getF_setF,← mergeFs_s r fs B]
  by_cases hB:B=B0
  ·subst hB
   rw [if_pos rfl]
   cases getF (mergeFs h1 r fs) B <;> rfl
  ·rw [if_neg hB]
 | (.p _,_)::r,fs,B=>by simp only [mergeFs]; exact mergeFs_s r fs B
theorem mergeFs_get {h1:Hp} {fs:List (Nat×Fam)} : ∀ {bs:List (Id×Nat)},nodupI (bs.map (·.1))=true→(∀ B k i,(Id.m B k,i)∈bs→k<famLen fs B) → ∀ (B k:Nat),
  (∀ i,(Id.m B k,i)∈bs→getM (mergeFs h1 bs fs) B k=match getF fs B with | some f=>(pureOf (getB h1.bs i)).map fun es=>(f.s,es) | none=>none) ∧
  ((∀ i,(Id.m B k,i) ∉ bs)→getM (mergeFs h1 bs fs) B k=getM fs B k)
 | [],_,_,B,k=>⟨fun i hm=>by simp at hm,fun _=>rfl⟩
 | (.p a,j)::r,hn,hl,B,k=>by
  simp only [List.map_cons,nodupI,Bool.and_eq_true] at hn
  obtain ⟨ih1,ih2⟩:=mergeFs_get (h1:=h1) (fs:=fs) (bs:=r) hn.2 (fun B k i hm=>hl B k i (by simp [hm])) B k
  simp only [mergeFs]
  exact ⟨fun i hm=>ih1 i (by simpa using hm),fun hn=>ih2 fun i hm=>hn i (by simp [hm])⟩
 | (.m B0 k0,j)::r,hn,hl,B,k=>by
  have hn0:=hn
  simp only [List.map_cons,nodupI,Bool.and_eq_true,Bool.not_eq_true', List.any_eq_false,List.mem_map,forall_exists_index,and_imp,forall_apply_eq_imp_iff₂] at hn
  obtain ⟨ih1,ih2⟩:=mergeFs_get (h1:=h1) (fs:=fs) (bs:=r) hn.2 (fun B k i hm=>hl B k i (by simp [hm])) B k
  have hlen:k0<famLen (mergeFs h1 r fs) B0:=by rw [mergeFs_len]; exact hl B0 k0 j (by simp)
  simp only [mergeFs]
  rw [getM_setF hlen]
  by_cases he:B=B0∧k=k0
  ·obtain ⟨rfl,rfl⟩:=he
   rw [if_pos ⟨rfl,rfl⟩]
   refine ⟨fun i hm=>?_,fun hno=>(hno j (by simp)).elim⟩
   have hij:i=j:=by
    simp only [List.mem_cons,Prod.mk.injEq,true_and] at hm
    rcases hm with hm | hm
    ·exact hm
    ·have:=hn.1 _ hm
     simp at this
   subst hij
   have hs:=mergeFs_s (h1:=h1) r fs B
   cases hg:getF fs B with
   | none =>
    rw [hg] at hs
    cases hg' : getF (mergeFs h1 r fs) B with
    | none=>rfl
    | some f=>rw [hg'] at hs; simp at hs
   | some f =>
    rw [hg] at hs
    cases hg' : getF (mergeFs h1 r fs) B with
    | none=>rw [hg'] at hs; simp at hs
    | some f' => rw [hg'] at hs; simp at hs; simp only [hs]
  ·rw [if_neg he]
   refine ⟨fun i hm=>ih1 i ?_,fun hno=>ih2 fun i hm=>hno i (by simp [hm])⟩
   simp only [List.mem_cons,Prod.mk.injEq,Id.m.injEq] at hm
   exact hm.resolve_left fun h=>he h.1
def mergeNu (ν ν1:Nu) (bs:List (Id×Nat)) (n:Nat) (hle:n≤ν1.nxt) (hin : ∀ p∈bs,p.1.lt ν.nxt ν.cnt) (hz : ∀ B,ν1.cnt B=0):Nu where
 at_ b:=match b with
  | .p a=>if a<ν.nxt then (match renOf bs (.p a) with | .ren i=>ν1.at_ i | _=>ν.at_ (.p a)) else ν1.at_ (.p (n+(a - ν.nxt)))
  | .m B k=>match renOf bs (.m B k) with | .ren i=>ν1.at_ i | _=>ν.at_ (.m B k)
 nxt:=ν.nxt+(ν1.nxt - n)
 cnt:=ν.cnt
 lt b x h:=by
  cases b with
  | p a =>
   show a<ν.nxt+(ν1.nxt - n)
   by_cases hb:a<ν.nxt
   ·omega
   ·simp only [hb,if_false] at h
    have:n+(a - ν.nxt)<ν1.nxt:=ν1.lt _ _ h
    omega
  | m B k =>
   show k<ν.cnt B
   simp only at h
   rcases renOf_cases bs (.m B k) with h0 | ⟨i,h0,hm⟩
   ·rw [h0] at h
    exact ν.lt _ _ h
   ·exact hin _ hm
 ph b:=match b with
  | .p a=>if a<ν.nxt then (match renOf bs (.p a) with | .ren i=>ν1.ph i | _=>ν.ph (.p a)) else ν1.ph (.p (n+(a - ν.nxt)))
  | .m B k=>match renOf bs (.m B k) with | .ren i=>ν1.ph i | _=>ν.ph (.m B k)
 phx b x h:=by
  cases b with
  | p a =>
   simp only at h ⊢
   by_cases hb:a<ν.nxt
   ·rw [if_pos hb] at h ⊢
    split at h
    ·exact ν1.phx _ _ h
    ·exact ν.phx _ _ h
   ·rw [if_neg hb] at h ⊢; exact ν1.phx _ _ h
  | m B k =>
   simp only at h ⊢
   split at h
   ·exact ν1.phx _ _ h
   ·exact ν.phx _ _ h
theorem obl_back {F:Nat→Prop} {w:World} {ν1 ν2:Nu} {τ:Id→Tr} (tr:TrOK F F w ν1 ν2 τ) {r s n:Nat} {o:O} (ho:Obl F w ν1 r s n o):Obl F w ν2 r s n (backO τ o):=by
 cases o with
 | lp q =>
  obtain ⟨rec,k1,k2⟩:=ho
  exact ⟨rec,k1,k2.map (rep_tr (fun _ h=>h) tr)⟩
 | it x m seen =>
  obtain ⟨mr,k1,k2⟩:=ho
  exact ⟨mr,k1,rep_tr (fun _ h=>h) tr _ _ k2⟩
 | mp es =>
  obtain ⟨ents,k1,k2,k3⟩:=ho
  refine ⟨ents,by rw [List.length_map]; exact k1,by simp [k2],fun i kv hi=>?_⟩
  rw [List.getElem?_map,Option.map_eq_some_iff] at hi
  obtain ⟨kv0,hi0,rfl⟩:=hi
  obtain ⟨e,e1,e2,e3,e4⟩:=k3 i kv0 hi0
  exact ⟨e,e1,e2,rep_tr (fun _ h=>h) tr _ _ e3,rep_tr (fun _ h=>h) tr _ _ e4⟩
 | rows s' p es =>
  obtain ⟨rfl,z2,c,el,z3,z4,z5⟩:=ho
  cases p with
  | true=>exact ⟨rfl,z2,c,el,z3,z4,z5⟩
  | false =>
   refine ⟨rfl,by simpa using z2,c,el,z3,z4,?_⟩
   rw [rowsC_iff] at z5 ⊢
   intro j row hrow
   rw [List.getElem?_map,Option.map_eq_some_iff] at hrow
   obtain ⟨row0,hrow0,rfl⟩:=hrow
   obtain ⟨k1,k2⟩:=z5 j row0 hrow0
   refine ⟨by rw [trL_length]; exact k1,fun l u hu=>?_⟩
   rw [trL_get,Option.map_eq_some_iff] at hu
   obtain ⟨v0,hv0,rfl⟩:=hu
   obtain ⟨y,k3,k4,k5⟩:=k2 l v0 hv0
   exact ⟨y,k3,k4,rep_tr (fun _ h=>h) tr v0 y k5⟩
theorem K_frame {P:Program} {G:Nat→Option (List V)} {f:FuncId} {args:List V} {h:Hp} {kp:Keep} {k:V→Hp→Prop} (hkp:kp=lentOf h args) (hok:kp.ok=true) (hbs:bsOK h=true)
  (hb:K P G f (trL (renOf kp.blocks) args) (lentH h kp) (fun _=>true) (fun v h1=>mfit h h1 kp.blocks=true∧k (v.tr (backT kp.blocks kp.nxt h.nxt)) (mergeH h kp h1))):K P G f args h (fun b=>kp.blocks.any fun p=>p.1.beq b) k:=by
 intro ν F w xs hh hG hl
 have hnils:kp.nils=[]:=by rw [hkp]; rfl
 have hpu:kp.pu=[]:=by rw [hkp]; rfl
 have hfm:kp.fams=[]:=by rw [hkp]; rfl
 obtain ⟨hn1,hn12,hblt,_,_,_⟩:=Keep.ok_iff.1 hok
 have hn2:=nodupB_right hn12
 have hblt : ∀ p∈kp.blocks,p.2<kp.nxt:=fun p hp=>blt_of (hblt p hp)
 obtain ⟨kh,ko⟩:=keep_heap hok hh
 rw [hnils,hpu,hfm,ren_nofams hfm] at kh
 have hl' := repL_tr (fun _ h=>h) (keep_tr hok hh) _ _ hl
 rw [ren_nofams hfm] at hl'
 have hin : ∀ b o,h.get b=some o→b.lt ν.nxt ν.cnt:=fun b o ho=>by
  cases b with
  | p b =>
   have:=List.all_eq_true.1 hbs _ (getB_memM ho)
   show b<ν.nxt
   rw [hh.nxt]; exact blt_of this
  | m B k =>
   obtain ⟨f,es,h1,h2,_⟩:=Hp.get_m ho
   show k<ν.cnt B
   rw [hh.cnt B]
   simp only [famLen,h1]
   exact memb_lt h2
 refine (hb _ F w xs (by simpa [nilBs,lentH,keepFs] using kh) hG hl').mono fun e w' ⟨x,v,ν1,F1,h1,g1,⟨gfit0,g2⟩,g4,g5,g6,_⟩=>?_
 have hnx:(kpNu kp hok h ν).nxt=kp.nxt:=rfl
 have hz0 : ∀ B,(kpNu kp hok h ν).cnt B=0:=fun B=>by
  show kp.cnt h B=0
  simp [Keep.cnt,hfm]
 have gfit1:=(Bool.and_eq_true _ _ ▸ gfit0:h1.fs.isEmpty=true∧_)
 have gfit:=gfit1.2
 have hz : ∀ B,ν1.cnt B=0:=cnt_none g4 gfit1.1
 have hle:kp.nxt≤ν1.nxt:=g6.nxt
 have hp1 : ∀ {b:Id} {y},ν1.at_ b=some y → ∃ i,b = .p i:=fun {b y} hy=>by
  have:=ν1.lt _ _ hy
  cases b with
  | p i=>exact ⟨i,rfl⟩
  | m B k =>
   have:k<ν1.cnt B:=this
   rw [hz B] at this
   omega
 have hhas : ∀ a i,(a,i)∈kp.blocks→h.has a=true:=fun a i hm=>by
  rw [hkp] at hm
  simp only [lentOf] at hm
  have:=(List.mem_zipIdx hm)
  have hm' : a∈(reach 200 h (refsL args) []).filter fun b=>h.has b:=by
   rw [this.2.2]; exact List.getElem_mem _
  exact (List.mem_filter.1 hm').2
 have hfst : ∀ a i,(a,i)∈kp.blocks→a.lt ν.nxt ν.cnt:=fun a i hm=>by
  obtain ⟨o,ho⟩:=has_iff.1 (hhas a i hm)
  exact hin a o ho
 let σ:=backT kp.blocks kp.nxt h.nxt
 have σlo : ∀ i a,(a,i)∈kp.blocks→σ (.p i) = .ren a:=fun i a hm=>by
  have:Nat.blt i kp.nxt=true:=by have:=hblt _ hm; exact Nat.ble_eq_true_of_le this
  simp only [σ,backT,this,cond_true]
  exact back1_mem hn2 hm
 have σhi : ∀ i,kp.nxt≤i→σ (.p i) = .ren (.p (ν.nxt+(i - kp.nxt))):=fun i hi=>by
  have:Nat.blt i kp.nxt=false:=by
   cases hq:Nat.blt i kp.nxt with
   | false=>rfl
   | true=>have:=blt_of hq; omega
  simp only [σ,backT,this,cond_false]
  rw [← hh.nxt]
 have σcase : ∀ j b,σ j = .ren b → ∃ i,j = .p i∧((i<kp.nxt∧(b,i)∈kp.blocks∧b.lt ν.nxt ν.cnt)∨(kp.nxt≤i∧b = .p (ν.nxt+(i - kp.nxt)))):=fun j b hs=>by
  cases j with
  | m B k=>simp only [σ,backT] at hs; cases hs
  | p i =>
  refine ⟨i,rfl,?_⟩
  by_cases hi:i<kp.nxt
  ·left
   have:Nat.blt i kp.nxt=true:=Nat.ble_eq_true_of_le hi
   simp only [σ,backT,this,cond_true] at hs
   rcases back1_cases kp.blocks i with h0 | ⟨a,h0,hm⟩
   ·rw [h0] at hs; cases hs
   ·rw [h0] at hs; cases hs
    exact ⟨hi,hm,hfst _ _ hm⟩
  ·right
   rw [σhi i (by omega)] at hs
   cases hs
   exact ⟨by omega,rfl⟩
 have nlt : ∀ {n:Nat},ν.nxt≤n → ¬ (Id.p n).lt ν.nxt ν.cnt:=fun {n} hn hl=>by
  have:n<ν.nxt:=hl
  omega
 have σinj : ∀ i j b,σ i = .ren b→σ j = .ren b→j=i:=fun i j b hi hj=>by
  obtain ⟨i0,rfl,ci⟩:=σcase i b hi
  obtain ⟨j0,rfl,cj⟩:=σcase j b hj
  rcases ci with ⟨_,m1,l1⟩ | ⟨l1,e1⟩ <;> rcases cj with ⟨_,m2,l2⟩ | ⟨l2,e2⟩
  ·have:=nodupI_inj (f:=fun p:Id×Nat=>p.1) hn1 m2 m1 rfl
   simpa using this
  ·rw [e2] at l1; exact (nlt (by omega) l1).elim
  ·rw [e1] at l2; exact (nlt (by omega) l2).elim
  ·rw [e1] at e2; simp at e2; rw [show j0=i0 by omega]
 let ν2:=mergeNu ν ν1 kp.blocks kp.nxt hle (fun p hp=>hfst p.1 p.2 hp) hz
 have at_lent : ∀ a i,(a,i)∈kp.blocks→ν2.at_ a=ν1.at_ (.p i)∧ν2.ph a=ν1.ph (.p i):=fun a i hm=>by
  have hlt:=hfst a i hm
  cases a with
  | p a =>
   have hlt:a<ν.nxt:=hlt
   simp only [ν2,mergeNu,if_pos hlt,renOf_mem hn1 hm,and_self]
  | m B k=>simp only [ν2,mergeNu,renOf_mem hn1 hm,and_self]
 have at_new : ∀ i,kp.nxt≤i→ν2.at_ (.p (ν.nxt+(i - kp.nxt)))=ν1.at_ (.p i)∧ν2.ph (.p (ν.nxt+(i - kp.nxt)))=ν1.ph (.p i):=fun i hi=>by
  have : ¬ ν.nxt+(i - kp.nxt)<ν.nxt:=by omega
  simp only [ν2,mergeNu,if_neg this]
  rw [show kp.nxt+(ν.nxt+(i - kp.nxt) - ν.nxt)=i by omega]
  exact ⟨rfl,rfl⟩
 have at_σ : ∀ j b,σ j = .ren b→ν2.at_ b=ν1.at_ j∧ν2.ph b=ν1.ph j:=fun j b hs=>by
  obtain ⟨i,rfl,ci⟩:=σcase j b hs
  rcases ci with ⟨_,hm,_⟩ | ⟨hi,rfl⟩
  ·exact at_lent b i hm
  ·exact at_new i hi
 have at_old : ∀ b:Id,b.lt ν.nxt ν.cnt→(∀ i,(b,i) ∉ kp.blocks)→ν2.at_ b=ν.at_ b∧ν2.ph b=ν.ph b:=fun b hb hn=>by
  cases b with
  | p a =>
   have hb:a<ν.nxt:=hb
   simp only [ν2,mergeNu,if_pos hb,renOf_none hn,and_self]
  | m B k=>simp only [ν2,mergeNu,renOf_none hn,and_self]
 have src : ∀ b y,ν2.at_ b=some y→(∃ i,σ (.p i) = .ren b∧ν1.at_ (.p i)=some y)∨(b.lt ν.nxt ν.cnt∧(∀ i,(b,i) ∉ kp.blocks)∧ν.at_ b=some y):=fun b y hy=>by
  have low:b.lt ν.nxt ν.cnt→(∃ i,σ (.p i) = .ren b∧ν1.at_ (.p i)=some y)∨(b.lt ν.nxt ν.cnt∧(∀ i,(b,i) ∉ kp.blocks)∧ν.at_ b=some y):=fun hb=>by
   rcases renOf_cases kp.blocks b with h0 | ⟨i,h0,hm⟩
   ·right
    have hn : ∀ i,(b,i) ∉ kp.blocks:=fun i hm=>by rw [renOf_mem hn1 hm] at h0; cases h0
    exact ⟨hb,hn,by rw [← (at_old b hb hn).1]; exact hy⟩
   ·exact .inl ⟨i,σlo i b hm,by rw [← (at_lent b i hm).1]; exact hy⟩
  cases b with
  | m B k=>exact low (ν2.lt _ _ hy)
  | p a =>
   by_cases hb:a<ν.nxt
   ·exact low hb
   ·left
    have hlt:a<ν2.nxt:=ν2.lt _ _ hy
    have e:ν.nxt+(kp.nxt+(a - ν.nxt) - kp.nxt)=a:=by omega
    refine ⟨kp.nxt+(a - ν.nxt),by rw [σhi _ (by omega),e],?_⟩
    have:=(at_new (kp.nxt+(a - ν.nxt)) (by omega)).1
    rw [e] at this
    rw [← this]; exact hy
 have own0 : ∀ r,(kpNu kp hok h ν).own r → ∃ a i s n,(a,i)∈kp.blocks∧ν.at_ a=some (r,s,n):=fun r ⟨i,s,n,hat⟩=>by
  rw [kpNu_at] at hat
  obtain ⟨_,a,hm,ha⟩:=hat
  cases i with
  | p i=>exact ⟨a,i,s,n,src_p hm,ha⟩
  | m B k =>
   obtain ⟨f,hf,_⟩:=src_m hm
   simp [hfm] at hf
 have notown : ∀ b r s n,ν.at_ b=some (r,s,n)→(∀ i,(b,i) ∉ kp.blocks) → ¬ (kpNu kp hok h ν).own r:=fun b r s n hat hn ho=>by
  obtain ⟨a,i,s', n', hm,ha⟩:=own0 r ho
  exact hn i (hh.inj a b r s' n' s n ha hat ▸ hm)
 have own_lt : ∀ r,ν.own r→r<w.heap.size:=fun r ho=>hh.own_lt ho
 have same : ∀ b r s n,ν.at_ b=some (r,s,n)→(∀ i,(b,i) ∉ kp.blocks)→w'.heap[r]? = w.heap[r]? := fun b r s n hat hn=>g6.old r (own_lt r ⟨b,s,n,hat⟩) (notown b r s n hat hn)
 have klt : ∀ {i:Nat},i<kp.nxt→(Id.p i).lt (kpNu kp hok h ν).nxt (kpNu kp hok h ν).cnt:=fun {i} hi=>hi
 have evo:Evo ν F w ν2 F1 w' := by
  refine ⟨g6.os,g6.tape,g6.output,g6.size,fun r hr ho=>g6.old r hr (fun h0=>ho (ko r h0)),g6.fmono,fun r hr=>(g6.fnew r hr).imp id (fun h=>h.imp (ko r) id),?_,?_,?_,fun _=>Nat.le_refl _,?_,?_,by first | exact Nat.le_refl _ | exact Nat.le_succ _ | assumption | exact e.drawn | exact he.drawn | exact hb.drawn | exact hb.1.drawn | exact h.drawn | exact g6.drawn | exact h2.drawn | exact ed.drawn | exact e1.drawn | exact hk.drawn | (subst_vars; exact Nat.le_refl _) | (simp; done) | omega⟩
  ·rintro r ⟨b,s,n,hat⟩
   rcases src b _ hat with ⟨i,_,h0⟩ | ⟨_,_,h0⟩
   ·exact (g6.onew r ⟨_,s,n,h0⟩).imp (ko r) id
   ·exact .inl ⟨b,s,n,h0⟩
  ·intro b y hb hat
   rcases src b _ hat with ⟨i,hs,h0⟩ | ⟨_,_,h0⟩
   ·obtain ⟨i', he,ci⟩:=σcase _ b hs
    simp at he
    subst he
    rcases ci with ⟨hi,hm,_⟩ | ⟨hi,he⟩
    ·have:=g6.keep _ y (klt hi) h0
     rw [kpNu_iff] at this
     obtain ⟨a,hm', ha⟩:=this
     have:=nodupB_inj (f:=fun p:Id×Nat=>p.2) hn2 hm hm' rfl
     simp at this
     rw [this]; exact ha
    ·rw [he] at hb; exact (nlt (by omega) hb).elim
   ·exact h0
  ·show ν.nxt≤ν.nxt+_; omega
  ·intro b hb hp
   rcases renOf_cases kp.blocks b with h0 | ⟨i,h0,hm⟩
   ·have hn : ∀ i,(b,i) ∉ kp.blocks:=fun i hm=>by rw [renOf_mem hn1 hm] at h0; cases h0
    rw [(at_old b hb hn).2] at hp; exact hp
   ·rw [(at_lent b i hm).2] at hp
    have:=g6.kph _ (klt (hblt _ hm)) hp
    rw [kpNu_ph hok hm] at this; exact this
  ·intro b r s n hat hat2 c el fr hc
   rcases src b _ hat2 with ⟨i,hs,h0⟩ | ⟨_,hn,h0⟩
   ·obtain ⟨i', he,ci⟩:=σcase _ b hs
    simp at he
    subst he
    rcases ci with ⟨hi,hm,_⟩ | ⟨hi,he⟩
    ·exact g6.len _ r s n ((kpNu_iff hok).2 ⟨b,hm,hat⟩) h0 c el fr hc
    ·have:=ν.lt _ _ hat
     rw [he] at this
     exact (nlt (by omega) this).elim
   ·exact ⟨c,by rw [same b r s n hat hn]; exact hc,rfl⟩
 have tr:TrOK F1 F1 w' ν1 ν2 σ:=by
  intro b hb
  cases hs:σ b with
  | drop=>trivial
  | frz s es =>
   exfalso
   cases b with
   | m B k=>simp only [σ,backT] at hs; cases hs
   | p b =>
   by_cases hi:b<kp.nxt
   ·have:Nat.blt b kp.nxt=true:=Nat.ble_eq_true_of_le hi
    simp only [σ,backT,this,cond_true] at hs
    rcases back1_cases kp.blocks b with h0 | ⟨a,h0,hm⟩ <;> rw [h0] at hs <;> cases hs
   ·rw [σhi b (by omega)] at hs; cases hs
  | frzm es =>
   exfalso
   cases b with
   | m B k=>simp only [σ,backT] at hs; cases hs
   | p b =>
   by_cases hi:b<kp.nxt
   ·have:Nat.blt b kp.nxt=true:=Nat.ble_eq_true_of_le hi
    simp only [σ,backT,this,cond_true] at hs
    rcases back1_cases kp.blocks b with h0 | ⟨a,h0,hm⟩ <;> rw [h0] at hs <;> cases hs
   ·rw [σhi b (by omega)] at hs; cases hs
  | ren b' =>
   obtain ⟨e1,e2⟩:=at_σ b b' hs
   refine ⟨⟨?_,fun hp=>by rw [e2] at hp; exact hp⟩,fun y hy=>by rw [e1] at hy; exact hy⟩
   obtain ⟨i,rfl,ci⟩:=σcase b b' hs
   rcases ci with ⟨_,_,h0⟩ | ⟨h0,rfl⟩
   ·exact Id.lt_le h0 (show ν.nxt≤ν.nxt+_ by omega)
   ·have hb:i<ν1.nxt:=hb
    show ν.nxt+(i - kp.nxt)<ν.nxt+(ν1.nxt - kp.nxt)
    omega
 have hlm : ∀ B k i,(Id.m B k,i)∈kp.blocks→k<famLen h.fs B:=fun B k i hm=>by
  have:k<ν.cnt B:=hfst _ _ hm
  rwa [hh.cnt B] at this
 have getA : ∀ i b,σ (.p i) = .ren b→(mergeH h kp h1).get b=(h1.get (.p i)).map (backO σ)∨(h1.get (.p i))=none:=fun i b hs=>by
  cases hg:h1.get (.p i) with
  | none=>exact .inr rfl
  | some o =>
   left
   have hg' : getB h1.bs i=some o:=hg
   cases b with
   | p b =>
    have:=backBs_get hs (fun j hj=>by have:=σinj _ _ _ hs hj; simpa using this) h1.bs
    simp only [mergeH,Hp.get,getB_append]
    rw [this,hg']; rfl
   | m B k =>
    obtain ⟨i', he,hs'⟩:=σcase _ _ hs
    simp at he
    subst he
    rcases hs' with ⟨_,hm,_⟩ | ⟨_,he⟩
    ·rw [get_getM]
     show (getM (mergeFs h1 kp.blocks h.fs) B k).map _=_
     rw [(mergeFs_get hn1 hlm B k).1 i hm,hg']
     have hft:=List.all_eq_true.1 gfit _ hm
     simp only at hft
     cases hf:getF h.fs B with
     | none=>rw [hf] at hft; cases hft
     | some f =>
      rw [hf,hg'] at hft
      cases o with
      | mp es=>cases hft
      | lp q=>cases hft
      | it x n seen=>cases hft
      | rows s p es =>
       cases p with
       | false=>cases hft
       | true =>
        simp only at hft
        simp only [pureOf,Option.map_some,backO,← beq_eq hft]
    ·cases he
 have getN : ∀ i b,σ (.p i) = .ren b→h1.get (.p i)=none→(mergeH h kp h1).get b=none:=fun i b hs hg=>by
  have hg' : getB h1.bs i=none:=hg
  cases b with
  | p b =>
   have:=backBs_get hs (fun j hj=>by have:=σinj _ _ _ hs hj; simpa using this) h1.bs
   simp only [mergeH,Hp.get,getB_append]
   rw [this,hg']
   simp only [Option.map_none]
   have hd:=get_delAll (kp.blocks.map (·.1)) h (.p b)
   simp only [Hp.get] at hd
   rw [hd]
   obtain ⟨i', he,hs'⟩:=σcase _ _ hs
   simp at he
   subst he
   rcases hs' with ⟨_,hm,_⟩ | ⟨_,he⟩
   ·rw [if_pos (List.mem_map.2 ⟨_,hm,rfl⟩)]
   ·split
    ·rfl
    ·cases hgb:getB h.bs b with
     | none=>rfl
     | some o =>
      have:=hin (.p b) o hgb
      simp at he
      rw [he] at this
      exact (nlt (by omega) this).elim
  | m B k =>
   obtain ⟨i', he,hs'⟩:=σcase _ _ hs
   simp at he
   subst he
   rcases hs' with ⟨_,hm,_⟩ | ⟨_,he⟩
   ·rw [get_getM]
    show (getM (mergeFs h1 kp.blocks h.fs) B k).map _=_
    rw [(mergeFs_get hn1 hlm B k).1 i hm,hg']
    cases getF h.fs B <;> rfl
   ·cases he
 have getOld : ∀ b:Id,b.lt ν.nxt ν.cnt→(∀ i,(b,i) ∉ kp.blocks)→(mergeH h kp h1).get b=h.get b:=fun b hb hn=>by
  cases b with
  | m B k =>
   rw [get_getM,get_getM]
   show (getM (mergeFs h1 kp.blocks h.fs) B k).map _=_
   rw [(mergeFs_get hn1 hlm B k).2 hn]
  | p b =>
  have:getB (backBs σ h1.bs) b=none:=backBs_none (fun j hj=>by
   obtain ⟨i', he,hs'⟩:=σcase _ _ hj
   rcases hs' with ⟨_,hm,_⟩ | ⟨_,he⟩
   ·exact hn i' hm
   ·simp at he; rw [he] at hb; exact nlt (by omega) hb) _
  simp only [mergeH,Hp.get,getB_append]
  rw [this]
  have:=get_delAll (kp.blocks.map (·.1)) h (.p b)
  simp only [Hp.get] at this
  rw [this,if_neg]
  intro hm
  obtain ⟨⟨a,i⟩,hm', he⟩:=List.mem_map.1 hm
  simp at he
  subst he
  exact hn i hm'
 have heap:HeapOK ν2 F1 (mergeH h kp h1) w' := by
  refine ⟨?_,?_,?_,?_,?_,?_⟩
  ·intro b r s n hat
   rcases src b _ hat with ⟨i,hs,h0⟩ | ⟨hb,hn,h0⟩
   ·obtain ⟨o,z1,z2⟩:=g4.blk _ r s n h0
    refine ⟨backO σ o,?_,obl_back tr z2⟩
    rcases getA i b hs with h | h
    ·rw [h,z1]; rfl
    ·rw [z1] at h; cases h
   ·obtain ⟨o,z1,z2⟩:=hh.blk b r s n h0
    exact ⟨o,by rw [getOld b hb hn]; exact z1,obl_evo hh evo (same b r s n h0 hn) z2⟩
  ·intro b o hb
   by_cases hex : ∃ i,σ (.p i) = .ren b
   ·obtain ⟨i,hs⟩:=hex
    cases hg:h1.get (.p i) with
    | none=>rw [getN i b hs hg] at hb; cases hb
    | some o1 =>
     rcases getA i b hs with h | h
     ·rw [h,hg] at hb
      simp at hb
      subst hb
      obtain ⟨e1,e2⟩:=at_σ _ b hs
      rcases g4.dom _ o1 hg with ⟨y,hy⟩ | ⟨hp,s,p,rfl⟩
      ·exact .inl ⟨y,by rw [e1]; exact hy⟩
      ·refine .inr ⟨by rw [e2]; exact hp,s,p,?_⟩
       cases p <;> rfl
     ·rw [hg] at h; cases h
   ·have hn : ∀ i,(b,i) ∉ kp.blocks:=fun i hm=>hex ⟨i,σlo i b hm⟩
    have hlt:b.lt ν.nxt ν.cnt∧h.get b=some o:=by
     cases b with
     | m B k =>
      rw [get_getM] at hb
      have hb:(getM (mergeFs h1 kp.blocks h.fs) B k).map (fun p=>O.rows p.1 true p.2)=some o:=hb
      rw [(mergeFs_get hn1 hlm B k).2 hn,← get_getM] at hb
      exact ⟨hin _ o hb,hb⟩
     | p b =>
      have h0:getB (backBs σ h1.bs) b=none:=backBs_none (fun j hj=>hex ⟨j,hj⟩) _
      have hb:getB (backBs σ h1.bs++(delAll h (kp.blocks.map (·.1))).bs) b=some o:=hb
      rw [getB_append,h0] at hb
      have hb:(delAll h (kp.blocks.map (·.1))).get (.p b)=some o:=hb
      rw [get_delAll] at hb
      split at hb
      ·cases hb
      ·exact ⟨hin _ o hb,hb⟩
    obtain ⟨e1,e2⟩:=at_old b hlt.1 hn
    rcases hh.dom b o hlt.2 with ⟨y,hy⟩ | ⟨hp,h0⟩
    ·exact .inl ⟨y,by rw [e1]; exact hy⟩
    ·exact .inr ⟨by rw [e2]; exact hp,h0⟩
  ·intro b b' r s n s' n' h0 h0'
   have mix : ∀ i b' s n s' n', ν1.at_ (.p i)=some (r,s,n)→ν.at_ b' = some (r,s', n')→(∀ i,(b', i) ∉ kp.blocks)→False:=fun i b' s n s' n' a1 a2 hn=>by
    rcases g6.onew r ⟨_,s,n,a1⟩ with h2 | h2
    ·exact notown b' r s' n' a2 hn h2
    ·have:=own_lt r ⟨b', s', n', a2⟩; omega
   rcases src b _ h0 with ⟨i,hs,a1⟩ | ⟨_,hn,a1⟩ <;> rcases src b' _ h0' with ⟨i', hs', a2⟩ | ⟨_,hn', a2⟩
   ·have:=g4.inj _ _ r s n s' n' a1 a2
    simp at this
    subst this
    rw [hs] at hs'; cases hs'; rfl
   ·exact (mix i b' s n s' n' a1 a2 hn').elim
   ·exact (mix i' b s' n' s n a2 a1 hn).elim
   ·exact hh.inj b b' r s n s' n' a1 a2
  ·intro r hr
   refine ⟨(g4.frz r hr).1,?_⟩
   rintro ⟨b,s,n,hat⟩
   rcases src b _ hat with ⟨i,hs,a1⟩ | ⟨_,hn,a1⟩
   ·exact (g4.frz r hr).2 ⟨_,s,n,a1⟩
   ·rcases g6.fnew r hr with h2 | h2 | h2
    ·exact (hh.frz r h2).2 ⟨b,s,n,a1⟩
    ·exact notown b r s n a1 hn h2
    ·have:=own_lt r ⟨b,s,n,a1⟩; omega
  ·show ν.nxt+(ν1.nxt - kp.nxt)=h.nxt+(h1.nxt - kp.nxt)
   rw [hh.nxt,g4.nxt]
  ·intro B
   show ν.cnt B=famLen (mergeFs h1 kp.blocks h.fs) B
   rw [mergeFs_len]; exact hh.cnt B
 refine ⟨x,v.tr σ,ν2,F1,mergeH h kp h1,g1,g2,heap,rep_tr (fun _ h=>h) tr v x g5,evo,fun b y hy hb=>?_⟩
 have hn : ∀ i,(b,i) ∉ kp.blocks:=fun i hm=>by
  rw [List.any_eq_false] at hb
  have:=hb _ hm
  simp at this
 obtain ⟨r,s,n⟩:=y
 exact ⟨same b r s n hy hn,by rw [(at_old b (ν.lt _ _ hy) hn).1]; exact hy⟩
def KM (P:Program) (G:Nat→Option (List V)) (f:FuncId) (args:List V) (h0:Hp) (post:Hp→Us→Hp) (R:V→Us→Prop):Prop:=K P G f args h0 (fun _=>true) fun v h1 => ∃ es,h1=post h0 es∧R v es
theorem KM.mono {P:Program} {G:Nat→Option (List V)} {f:FuncId} {args:List V} {h:Hp} {post:Hp→Us→Hp} {R R' : V→Us→Prop} (hk:KM P G f args h post R) (hr : ∀ v es,R v es→R' v es):KM P G f args h post R' :=
 K.mono hk fun v h' ⟨es,h1,h2⟩=>⟨es,h1,hr v es h2⟩
def callsF (P:Program) (G:Nat→Option (List V)) (kn:FuncId→Option V) (mode:FuncId→Nat) (fz:Tmp→Bool) (base:Nat) (post:FuncId→Hp→Us→Hp) (rt:FuncId→Us→V→(V→Prop)→Prop):Calling :=
 ⟨kn,mode,fz,KB P G,K0G P G,fun f args h k=>match mode f with
   | 3=>guardB ((lentOf h args).ok&&bsOK h) (KM P G f (trL (renOf (lentOf h args).blocks) args) (lentH h (lentOf h args)) (post f) fun v us=>guardB (mfit h (post f (lentH h (lentOf h args)) us) (lentOf h args).blocks) <| rt f us v fun v =>
     k (v.tr (backT (lentOf h args).blocks (lentOf h args).nxt h.nxt)) (mergeH h (lentOf h args) (post f (lentH h (lentOf h args)) us)))
   | _=>K P G f args h (fun _=>true) k,
  fun f args h b=>match mode f with | 3=>(lentOf h args).blocks.any fun p=>p.1.beq b | _=>true,true,base,G,fun _ _ _ _=>False,fun _=>true⟩
theorem typedR_rep {P:Program} {t:Option TypeId} {v:V} {k:V→Prop} (h:typedR P t v k) : ∃ v', k v' ∧ ∀ {F:Nat→Prop} {w:World} {ν:Nu} {x:Value},rep F w ν v x→rep F w ν v' x:=by
 cases t with
 | none=>exact ⟨v,h,fun h=>h⟩
 | some t=>exact typedT_rep h
theorem callsF_ok {P:Program} {G:Nat→Option (List V)} {kn:FuncId→Option V} {mode:FuncId→Nat} {fz:Tmp→Bool} {base:Nat} {post:FuncId→Hp→Us→Hp} {rt:FuncId→Us→V→(V→Prop)→Prop} (hkn : ∀ g r,kn g=some r→K0G P G g [] fun v=>v=r) (hrt : ∀ f us v k,rt f us v k → ∃ v', k v' ∧ ∀ {F:Nat→Prop} {w:World} {ν:Nu} {x:Value},rep F w ν v x→rep F w ν v' x):(callsF P G kn mode fz base post rt).ok P:=by
 refine ⟨hkn,fun _ _ _ _ _ h=>K_of_K0 h,fun _ _ _ _ _ h1 h2=>K_of_KB h1 h2,fun _ _ _ _ _ h=>K_of_K0t h,fun _ _ _ _ h hr=>h.mono hr,fun _ _ _ h=>h,?_,fun _ _ _ _ h=>h.elim⟩
 intro f args h R hc
 by_cases hm:mode f=3
 ·simp only [callsF,hm] at hc ⊢
  rw [guardB_iff,Bool.and_eq_true] at hc
  obtain ⟨⟨hok,hbs⟩,hc⟩:=hc
  refine K_frame rfl hok hbs ?_
  intro ν F w xs g1 g2 g3
  refine (hc ν F w xs g1 g2 g3).mono fun e w' ⟨x,v,ν', F', h', z1,⟨es,z2,z3⟩,z4,z5,z6⟩=>?_
  have z3:=guardB_iff.1 z3
  obtain ⟨v', hk,hrv⟩:=hrt _ _ _ _ z3.2
  exact ⟨x,v', ν', F', h', z1,by rw [z2]; exact ⟨z3.1,hk⟩,z4,hrv z5,z6⟩
 ·simp only [callsF] at hc ⊢
  exact hc
def sameP (_:FuncId) (h:Hp) (_:Us):Hp:=h
noncomputable def cfgM (P:Program) (glob:Nat→Option (List V)) (mode:FuncId→Nat) (T:FuncId→Option TypeId) (enter:FuncId→Bool) (kps:FuncId→Nat→Option (List Tmp)):Cfg where
 C0:=callsF P glob (fun _=>none) mode (fun _=>false) 0 sameP fun f _ v k=>typedR P (T f) v k
 enter:=enter
 clean:=fun _=>true
 kps:=kps
theorem cfgM_ok {P:Program} {glob:Nat→Option (List V)} {mode:FuncId→Nat} {T:FuncId→Option TypeId} {enter:FuncId→Bool} {kps:FuncId→Nat→Option (List Tmp)}:(cfgM P glob mode T enter kps).ok P :=
 ⟨callsF_ok (fun _ _ h=>by cases h) (fun f us v k h=>typedR_rep h),knowsY_none⟩
theorem K0_by {P:Program} (hm:P.follows .mixedOrders=true) {cfg:Cfg} (hcf:cfg.ok P) (fuel:Nat) {f:FuncId} {fn:Func} (hf:P.funcs[f]? = some fn) {args:List V} {R:V→Prop} {p:Prop} (h:p=WY0 P cfg fuel f fn args R) (hp:p):K0G P cfg.glob f args R:=K0_of_WY0 hm hcf fuel hf (h ▸ hp)
def rfA:Code→Code | .rangeFunc _ _ a _=>a | c=>c
def rfB:Code→Code | .rangeFunc _ _ _ b=>b | c=>c
section
variable (cfg:Cfg) (base:Bs) (P:Program) (C:Calling) (N:Nat) (all:List Oper)
end
inductive Stp where
 | q (p:Prep)
 | e (p:Prep)
 | w (p:Prep) (rs:List Prep)
 | bad
section
variable (cfg:Cfg) (base:Bs) (P:Program) (C:Calling) (N:Nat) (all:List Oper)
end
end Go.Proofs.YtkkgicjioajimaaDoor.Clean

namespace Go.Proofs.YtkkgicjioajimaaDoor.Clean
set_option linter.unusedVariables false
def forceN (n:Nat) (k:Nat→Prop):Prop:=match n with
 | 0=>k 0
 | m+1=>k (m+1)
def forceV (v:V) (k:V→Prop):Prop:=match v with
 | .raw x=>k (.raw x)
 | .ptr b i o=>k (.ptr b i o)
 | .sl b lo n=>k (.sl b lo n)
 | .lst s es=>k (.lst s es)
 | v=>k v
def forceRow:List V→(List V→Prop)→Prop
 | [],k=>k []
 | v::r,k=>forceV v fun v=>forceRow r fun r=>k (v::r)
def forceArg (v:V) (k:V→Prop):Prop:=match v with
 | .agg cs=>forceRow cs fun cs=>k (.agg cs)
 | .fn f a c=>forceRow a fun a=>forceRow c fun c=>k (.fn f a c)
 | v=>forceV v k
def forceArgs:List V→(List V→Prop)→Prop
 | [],k=>k []
 | v::r,k=>forceArg v fun v=>forceArgs r fun r=>k (v::r)
def forceRows:List (List V)→(List (List V)→Prop)→Prop
 | [],k=>k []
 | v::r,k=>forceRow v fun v=>forceRows r fun r=>k (v::r)
def forceO (o:O) (k:O→Prop):Prop:=match o with
 | .rows s true es=>k (.rows s true es)
 | .rows s false es=>forceRows es fun es=>k (.rows s false es)
 | .mp es=>k (.mp es)
 | .lp q=>k (.lp q)
 | .it x n l=>k (.it x n l)
def forceBs:List (Nat×O)→(List (Nat×O)→Prop)→Prop
 | [],k=>k []
 | (a,o)::r,k=>forceN a fun a=>forceO o fun o=>forceBs r fun r=>k ((a,o)::r)
def forceH (h:Hp) (k:Hp→Prop):Prop:=match h with
 | ⟨bs,n,fs⟩=>forceBs bs fun bs=>forceN n fun n=>k ⟨bs,n,fs⟩
def forceIds:List Id→(List Id→Prop)→Prop
 | [],k=>k []
 | .p n::r,k=>forceN n fun n=>forceIds r fun r=>k (.p n::r)
 | .m B j::r,k=>forceIds r fun r=>k (.m B j::r)
def keepOf (bs:List Id):Keep:=⟨[],bs.zipIdx,bs.length,[],[],[]⟩
def lentIds (h:Hp) (vs:List V):List Id:=(reach 200 h (refsL vs) []).filter fun b=>h.has b
theorem forceN_eq (n:Nat) (k:Nat→Prop):forceN n k=k n:=by cases n <;> rfl
theorem forceV_eq (v:V) (k:V→Prop):forceV v k=k v:=by cases v <;> rfl
theorem forceRow_eq : ∀ (l:List V) (k:List V→Prop),forceRow l k=k l
 | [],k=>rfl
 | v::r,k=>by rw [forceRow,forceV_eq,forceRow_eq]
theorem forceArg_eq (v:V) (k:V→Prop):forceArg v k=k v:=by
 cases v <;> first | exact forceRow_eq _ _ | (show forceRow _ _=_; rw [forceRow_eq,forceRow_eq]) | rfl
theorem forceArgs_eq : ∀ (l:List V) (k:List V→Prop),forceArgs l k=k l
 | [],k=>rfl
 | v::r,k=>by rw [forceArgs,forceArg_eq,forceArgs_eq]
theorem forceRows_eq : ∀ (l:List (List V)) (k:List (List V)→Prop),forceRows l k=k l
 | [],k=>rfl
 | v::r,k=>by rw [forceRows,forceRow_eq,forceRows_eq]
theorem forceO_eq (o:O) (k:O→Prop):forceO o k=k o:=by
 cases o with
 | rows s p es=>cases p with
  | true=>rfl
  | false=>exact forceRows_eq es _
 | mp es=>rfl
 | lp q=>rfl
 | it x n l=>rfl
theorem forceBs_eq : ∀ (l:List (Nat×O)) (k:List (Nat×O)→Prop),forceBs l k=k l
 | [],k=>rfl
 | (a,o)::r,k=>by rw [forceBs,forceN_eq,forceO_eq,forceBs_eq]
theorem forceH_eq (h:Hp) (k:Hp→Prop):forceH h k=k h:=by
 obtain ⟨bs,n,fs⟩:=h
 show forceBs bs _=_
 rw [forceBs_eq,forceN_eq]
theorem forceIds_eq : ∀ (l:List Id) (k:List Id→Prop),forceIds l k=k l
 | [],k=>rfl
 | .p n::r,k=>by rw [forceIds,forceN_eq,forceIds_eq]
 | .m B j::r,k=>by rw [forceIds,forceIds_eq]
theorem lent_eq (h:Hp) (vs:List V):lentOf h vs=keepOf (lentIds h vs):=rfl
def callsG (P:Program) (G:Nat→Option (List V)) (mode:FuncId→Nat) (post:FuncId→List V→Hp→Us→Hp) (rt:FuncId→List V→Us→V→(V→Prop)→Prop):Calling :=
 ⟨fun _=>none,mode,fun _=>false,KB P G,K0G P G,fun f args h k=>match mode f with
   | 3=>forceArgs args fun args=>forceIds (lentIds h args) fun ids=>guardB ((keepOf ids).ok&&bsOK h) (forceH (lentH h (keepOf ids)) fun h0=>KM P G f (trL (renOf (keepOf ids).blocks) args) h0 (post f args) fun v us=>guardB (mfit h (post f args h0 us) (keepOf ids).blocks) <| rt f args us v fun v =>
     forceH (mergeH h (keepOf ids) (post f args h0 us)) fun h' => forceV (v.tr (backT (keepOf ids).blocks (keepOf ids).nxt h.nxt)) fun v=>k v h')
   | _=>K P G f args h (fun _=>true) k,
  fun f args h b=>match mode f with | 3=>(lentOf h args).blocks.any fun p=>p.1.beq b | _=>true,true,0,G,fun _ _ _ _=>False,fun _=>true⟩
theorem callsG_ok {P:Program} {G:Nat→Option (List V)} {mode:FuncId→Nat} {post:FuncId→List V→Hp→Us→Hp} {rt:FuncId→List V→Us→V→(V→Prop)→Prop} (hrt : ∀ f args us v k,rt f args us v k → ∃ v', k v' ∧ ∀ {F:Nat→Prop} {w:World} {ν:Nu} {x:Value},rep F w ν v x→rep F w ν v' x):(callsG P G mode post rt).ok P:=by
 refine ⟨(fun _ _ h=>by cases h),fun _ _ _ _ _ h=>K_of_K0 h,fun _ _ _ _ _ h1 h2=>K_of_KB h1 h2,fun _ _ _ _ _ h=>K_of_K0t h,fun _ _ _ _ h hr=>h.mono hr,fun _ _ _ h=>h,?_,fun _ _ _ _ h=>h.elim⟩
 intro f args h R hc
 by_cases hm:mode f=3
 ·simp only [callsG,hm] at hc ⊢
  rw [forceArgs_eq,forceIds_eq,← lent_eq,guardB_iff,Bool.and_eq_true,forceH_eq] at hc
  obtain ⟨⟨hok,hbs⟩,hc⟩:=hc
  refine K_frame rfl hok hbs ?_
  intro ν F w xs g1 g2 g3
  refine (hc ν F w xs g1 g2 g3).mono fun e w' ⟨x,v,ν', F', h', z1,⟨es,z2,z3⟩,z4,z5,z6⟩=>?_
  have z3:=guardB_iff.1 z3
  obtain ⟨v', hk,hrv⟩:=hrt _ _ _ _ _ z3.2
  rw [forceH_eq,forceV_eq] at hk
  exact ⟨x,v', ν', F', h', z1,by rw [z2]; exact ⟨z3.1,hk⟩,z4,hrv z5,z6⟩
 ·simp only [callsG] at hc ⊢
  exact hc
set_option linter.unusedSimpArgs false
noncomputable def WYB (P:Program) (cfg:Cfg) (fuel:Nat) (f:FuncId) (fn:Func) (args:List V) (h:Hp) (R:V→Prop):Prop :=
 match fn.body with
 | some c=>guardB (Nat.ble args.length fn.ntmps&&Nat.ble args.length 1000) (WY P cfg fuel ⟨⟨h.nxt,[]⟩,h.nxt,none,fn.ntmps,f,0⟩ c (QendX P fn fun v h' => dataT h.nxt (gcH h.nxt v h') v R) ⟨start args,h⟩)
 | none=>False
theorem KB_of_WYB {P:Program} (hm:P.follows .mixedOrders=true) {cfg:Cfg} (hcf:cfg.ok P) (fuel:Nat) {f:FuncId} {fn:Func} (hf:P.funcs[f]? = some fn) {args:List V} {h:Hp} {R:V→Prop} (hfs:h.fs=[]) (hw:WYB P cfg fuel f fn args h R):KB P cfg.glob f args h R:=by
 let cfg' : Cfg:={ cfg with enter:=fun _=>true,known:=fun _ _=>none,clean:=fun _=>true,spare:=fun _=>[] }
 have hc:(callY P cfg' (WY P cfg fuel) ⟨0,[]⟩ 0).c f args h (fun v h' => dataT h.nxt h' v R):=by
  show cY P cfg' (WY P cfg fuel) ⟨0,[]⟩ f args h (fun v h' => dataT h.nxt h' v R)
  unfold WYB at hw
  split at hw
  ·rename_i c hb
   simp only [cY,cfg', cond_true,onSome_iff,Cfg.baseOf]
   exact ⟨fn,hf,c,hb,hw⟩
  ·exact hw.elim
 have:=(callY_ok (cfg:=cfg') ⟨hcf.c0,knowsY_none⟩ (WY_sound hm hcf fuel) ⟨0,[]⟩ 0).c f args h _ hc
 intro ν F w xs g1 g2 g3
 refine (this ν F w xs g1 g2 g3).mono fun e w' ⟨x,v,ν', F', h', z1,z2,z3,z4,z5,z6⟩=>?_
 obtain ⟨d,d1,d2⟩:=dataT_D z2
 refine ⟨x,v,d,ν', F', h', z1,d2,d1,z3,z4,z5,fun b y hb=>z6 b y hb ?_⟩
 show tY cfg' ⟨0,[]⟩ f args h b=false
 simp only [tY,cfg', cond_true,Cfg.baseOf,Id.lows,List.any_nil,Bool.or_false]
 have hlt:=ν.lt _ _ hb
 cases b with
 | p a =>
  have:a<h.nxt:=by have h2:a<ν.nxt:=hlt; rw [g1.nxt] at h2; exact h2
  show (!Nat.blt a h.nxt)=false
  rw [show Nat.blt a h.nxt=true from Nat.ble_eq_true_of_le this]; rfl
 | m B j =>
  have h2:j<ν.cnt B:=hlt
  rw [g1.cnt B,hfs] at h2
  exact absurd h2 (Nat.not_lt_zero _)
section
variable {ν:Nu} {F:Nat→Prop} {h:Hp} {w w' : World}
end
end Go.Proofs.YtkkgicjioajimaaDoor.Clean
namespace Go.Proofs.YtkkgicjioajimaaDoor
open Go Go.Proofs.YtkkgicjioajimaaDoor.Clean
set_option linter.unusedVariables false
set_option maxRecDepth 100000
def tabC:List V:=[V.raw (.int .u8 0),V.raw (.int .u8 1),V.raw (.int .u8 28),V.raw (.int .u8 2),V.raw (.int .u8 29),V.raw (.int .u8 14),V.raw (.int .u8 24),V.raw (.int .u8 3),V.raw (.int .u8 30),V.raw (.int .u8 22),V.raw (.int .u8 20),V.raw (.int .u8 15),V.raw (.int .u8 25),V.raw (.int .u8 17),V.raw (.int .u8 4),V.raw (.int .u8 8),V.raw (.int .u8 31),V.raw (.int .u8 27),V.raw (.int .u8 13),V.raw (.int .u8 23),V.raw (.int .u8 21),V.raw (.int .u8 19),V.raw (.int .u8 16),V.raw (.int .u8 7),V.raw (.int .u8 26),V.raw (.int .u8 12),V.raw (.int .u8 18),V.raw (.int .u8 6),V.raw (.int .u8 11),V.raw (.int .u8 5),V.raw (.int .u8 10),V.raw (.int .u8 9)]
def glX:Nat→Option (List V):=fun g=>match g with | 0=>some tabC | _=>none
theorem hmX:Tryd.prog.follows .mixedOrders=true:=by kernel_rfl
def u8v (n:Int):V := .raw (.int .u8 n)
def nb (l:List Nat):List (List V):=l.map fun (n:Nat)=>[u8v (n:Int)]
abbrev Pt:=Int×Int×Int×Nat
def ptr4 (x:Pt):List V:=[iv x.1,iv x.2.1,iv x.2.2.1,u8v (x.2.2.2:Int)]
def ptl (l:List Pt):List (List V):=l.map ptr4
def kpK:FuncId→Nat→Option (List Tmp):=slotsOf [(49,0,[3,7,8,9]),(16,0,[40,41,42]),(18,0,[0,9,10,11]),(68,0,[1,2,3,11,12]),(68,2,[1,2,3,4,11,12,16,17]),(33,0,[5,13,14,15]),(39,0,[1,3,4]),(40,0,[1,3]),(52,0,[0,3]),(34,0,[0,4,5]),(34,2,[0,4,5,6,7]),(34,4,[0,4,5,6,7,8])]
noncomputable def cfK:Cfg:=cfgM Tryd.prog glX (fun _=>0) (fun _=>none) (inN [48,71,50,64,78,79,98,117,65,118]) kpK
noncomputable def sh32 (u:Nat) (c:List Nat) (n:Int) (k:Nat):St:=⟨mkT [(3,iv n),(7,V.lst u (nb c)),(8,iv ((nb c).length:Int)),(9,iv (k:Int))],⟨[],0,[]⟩⟩
noncomputable def sh11 (u:Nat) (c:List Nat) (k:Nat):St:=⟨mkT [(40,V.lst u (nb c)),(41,iv ((nb c).length:Int)),(42,iv (k:Int))],⟨[],0,[]⟩⟩
noncomputable def sh13 (l:List Pt) (k:Nat):St:=⟨mkT [(0,V.lst 4 (ptl l)),(9,V.lst 4 (ptl l)),(10,iv ((ptl l).length:Int)),(11,iv (k:Int))],⟨[],0,[]⟩⟩
noncomputable def sh25 (w d h:Int) (u:Nat) (c:List Nat) (n:Int) (k:Nat):St:=⟨mkT [(1,V.ptr (Id.p 0) 0 0),(3,iv n),(4,iv (k:Int))],⟨[(0,O.rows 4 false [[iv w,iv d,iv h,V.lst u (nb c)]])],1,[]⟩⟩
noncomputable def sh33 (w d h:Int) (u:Nat) (c:List Nat) (k:Nat):St:=⟨mkT [(1,V.ptr (Id.p 0) 0 0),(3,iv (k:Int))],⟨[(0,O.rows 4 false [[iv w,iv d,iv h,V.lst u (nb c)]])],1,[]⟩⟩
noncomputable def sh36 (l:List Pt) (k:Nat):St:=⟨mkT [(0,V.lst 4 (ptl l)),(3,iv (k:Int))],⟨[],0,[]⟩⟩
set_option linter.unusedSimpArgs false
set_option maxRecDepth 10000
theorem hcK:cfK.ok Tryd.prog:=cfgM_ok
theorem ifB_t {b:Bool} {p q:Prop} (hb:b=true) (h:p):ifB b p q:=by subst hb; exact h
theorem ifB_f {b:Bool} {p q:Prop} (hb:b=false) (h:q):ifB b p q:=by subst hb; exact h
theorem wr1i {i n:Nat} (h:i<n) (hn:(n:Int)≤9223372036854775807):IntKind.i64.wrap ((i:Int)+1)=((i+1:Nat):Int):=by rw [wr (by omega) (by omega)]; simp
theorem onIntK_u8 {n:Int} {k:Int→Prop} (h:k n):onIntK .u8 (u8v n) k:=h
theorem nb_length (l:List Nat):(nb l).length=l.length:=by simp [nb]
theorem ptl_length (l:List Pt):(ptl l).length=l.length:=by simp [ptl]
theorem nbel {l:List Nat} {i:Nat} {x:Nat} {k:Int→Prop} (h:l[i]? = some x) (hk:k x):onSome (nb l)[i]? fun row=>onSome row[0]? fun v=>onIntK IntKind.u8 v fun n=>k n:=onSome_mk (by simp [nb,h]:(nb l)[i]? = some [u8v (x:Int)]) hk
theorem ptel {l:List Pt} {i:Nat} {x:Pt} {k:Int→Int→Int→Int→Prop} (h:l[i]? = some x) (hk:k x.1 x.2.1 x.2.2.1 x.2.2.2):onSome (ptl l)[i]? fun row=>onCons (List.drop 0 row) fun u r=>onIntK IntKind.i64 u fun a=>onCons r fun u r=>onIntK IntKind.i64 u fun b=>onCons r fun u r=>onIntK IntKind.i64 u fun c=>onCons r fun u r=>onIntK IntKind.u8 u fun d=>k a b c d :=
 onSome_mk (by simp [ptl,h]:(ptl l)[i]? = some (ptr4 x)) (onCons_cons (onIntK_iv (onCons_cons (onIntK_iv (onCons_cons (onIntK_iv (onCons_cons (onIntK_u8 hk))))))))
def fullN (c:List Nat):Nat:=(c.filter fun x=>x != 0).length
theorem fullN_le (c:List Nat):fullN c≤c.length:=List.length_filter_le _ _
theorem fullN_snoc {c:List Nat} {k x:Nat} (h:c[k]? = some x):fullN (c.take (k+1))=fullN (c.take k)+if x=0 then 0 else 1:=by
 rw [List.take_add_one,h]
 unfold fullN
 rw [List.filter_append,List.length_append]
 by_cases e:x=0 <;> simp [e]
theorem full32 {w d h:Int} {u:Nat} {c:List Nat} {R:V→Prop} (hu:u=1∨c=[]) (hc:c.length≤1000000) (hR:R (iv (fullN c:Int))):K0G Tryd.prog glX 49 [.agg [iv w,iv d,iv h,.lst u (nb c)]] R:=by
 refine K0_of_WY0 hmX hcK 3000 Tryd.func49 (see (p:=La 0 [(3:Tmp),(7:Tmp),(8:Tmp),(9:Tmp)] (WY Tryd.prog cfK 2994 (Env.mk (Bs.mk 0 []) 0 none 19 49 0) (cdAt [1,1,0,1,0,0] (bodyOf Tryd.f49))) (Qblk 0 (Qthen (WY Tryd.prog cfK 2997 (Env.mk (Bs.mk 0 []) 0 none 19 49 0) (cdAt [1,1,1] (bodyOf Tryd.f49)) (QendX Tryd.prog Tryd.f49 fun v h=>R (frzW h v))) (QendX Tryd.prog Tryd.f49 fun v h=>R (frzW h v)))) (St.mk (mkT [(3,iv (0:Int)),(7,V.lst u (nb c)),(8,iv (↑(nb c).length:Int)),(9,iv (0:Int))]) (Hp.mk [] 0 []))) (by kernel_rfl) ?_)
 refine La.of (σ:=Int×Nat) (fun x=>sh32 u c x.1 x.2) (fun x=>x.2≤c.length∧x.1=fullN (c.take x.2)) (fun x=>c.length - x.2) (0,0) (by kernel_rfl) ⟨by simp,by simp [fullN]⟩ ?_
 rintro ⟨n,k⟩ ⟨g1,g2⟩ J hJ
 simp only at g1 g2
 refine see (p:=ifB (decide ((↑k:Int)<(↑(nb c).length:Int))) (need (u=1) (onSome (nb c)[k]? fun row=>onSome row[0]? fun v=>onIntK IntKind.u8 v fun n_1=>ifB (n_1 != (0:Int)) (J (St.mk (mkT [(3,iv (IntKind.i64.wrap (n+(1:Int)))),(7,V.lst u (nb c)),(8,iv (↑(nb c).length:Int)),(9,iv (IntKind.i64.wrap ((↑k:Int)+(1:Int))))]) (Hp.mk [] 0 []))) (J (St.mk (mkT [(3,iv n),(7,V.lst u (nb c)),(8,iv (↑(nb c).length:Int)),(9,iv (IntKind.i64.wrap ((↑k:Int)+(1:Int))))]) (Hp.mk [] 0 []))))) (R (iv n))) (by kernel_rfl) ?_
 refine ifB_mk (fun hb=>?_) (fun hb=>?_) <;> rw [nb_length] at hb
 ·have hlt:k<c.length:=by have:=of_decide_eq_true hb; omega
  have e1:c[k]? = some (c.getD k 0):=by simp [List.getD,hlt]
  have hu1:u=1:=hu.resolve_right (by rintro rfl; simp at hlt)
  have hs:=fullN_snoc e1
  have hl:=fullN_le (c.take k)
  rw [List.length_take] at hl
  refine need_mk ⟨hu1,nbel e1 ?_⟩
  rw [wr1i hlt (by omega)]
  refine ifB_mk (fun hb=>?_) (fun hb=>?_)
  ·rw [wr (by omega) (by omega)]
   refine hJ (n+1,k+1) ⟨hlt,?_⟩ (by simp only; omega)
   have:c.getD k 0≠0:=by rintro e; rw [e] at hb; simp at hb
   rw [if_neg this] at hs
   simp only
   rw [hs,g2]
   rfl
  ·refine hJ (n,k+1) ⟨hlt,?_⟩ (by simp only; omega)
   have:c.getD k 0=0:=by
    have:((c.getD k 0:Nat):Int)=0:=by simpa using hb
    omega
   rw [if_pos this] at hs
   simp only
   rw [hs,g2]
   rfl
 ·have hk:k=c.length:=by have:=of_decide_eq_false hb; omega
  rw [hk,List.take_length] at g2
  rw [g2]; exact hR
def ShOK (w d h:Int) (c:List Nat):Prop:=(1≤w∧w≤8)∧(1≤d∧d≤8)∧(1≤h∧h≤4)∧(c.length:Int)=w * d * h∧(1≤fullN c∧fullN c≤16) ∧ ∀ x∈c,x≤15
theorem sizes {w d h:Int} (hw:1≤w∧w≤8) (hd:1≤d∧d≤8) (hh:1≤h∧h≤4):(1≤w * d∧w * d≤64)∧1≤w * d * h∧w * d * h≤256:=by
 have a1:1 * 1≤w * d:=Int.mul_le_mul hw.1 hd.1 (by omega) (by omega)
 have a2:w * d≤8 * 8:=Int.mul_le_mul hw.2 hd.2 (by omega) (by omega)
 have b1:1 * 1≤w * d * h:=Int.mul_le_mul (by omega) hh.1 (by omega) (by omega)
 have b2:w * d * h≤64 * 4:=Int.mul_le_mul (by omega) hh.2 (by omega) (by omega)
 omega
theorem check11 {w d h:Int} {u:Nat} {c:List Nat} {R:V→Prop} (hu:u=1∨c=[]) (h0:ShOK w d h c→R (iv 0)) (h1 : ¬ ShOK w d h c→R (iv 70)):K0G Tryd.prog glX 16 [.agg [iv w,iv d,iv h,.lst u (nb c)]] R:=by
 refine K0_of_WY0 hmX hcK 3000 Tryd.func16 (see (p:=ifB (decide ((1:Int)≤w)) (ifB (!decide (w≤(8:Int))) (R (iv (70:Int))) (ifB (decide ((1:Int)≤d)) (ifB (!decide (d≤(8:Int))) (R (iv (70:Int))) (ifB (decide ((1:Int)≤h)) (ifB (!decide (h≤(4:Int))) (R (iv (70:Int))) (ifB ((↑(nb c).length:Int) != IntKind.i64.wrap (IntKind.i64.wrap (w * d) * h)) (R (iv (70:Int))) (K0G Tryd.prog glX 49 [V.agg [iv w,iv d,iv h,V.lst u (nb c)]] fun v=>onIntK IntKind.i64 v fun n=>ifB (decide ((1:Int)≤n)) (ifB (!decide (n≤(16:Int))) (R (iv (70:Int))) (La 0 [(40:Tmp),(41:Tmp),(42:Tmp)] (WY Tryd.prog cfK 2993 (Env.mk (Bs.mk 0 []) 0 none 49 16 0) (cdAt [1,1,1,0,1,0,0] (bodyOf Tryd.f16))) (Qblk 0 (Qthen (WY Tryd.prog cfK 2996 (Env.mk (Bs.mk 0 []) 0 none 49 16 0) (cdAt [1,1,1,1] (bodyOf Tryd.f16)) (QendX Tryd.prog Tryd.f16 fun v h=>R (frzW h v))) (QendX Tryd.prog Tryd.f16 fun v h=>R (frzW h v)))) (St.mk (mkT [(40,V.lst u (nb c)),(41,iv (↑(nb c).length:Int)),(42,iv (0:Int))]) (Hp.mk [] 0 [])))) (R (iv (70:Int)))))) (R (iv (70:Int))))) (R (iv (70:Int))))) (R (iv (70:Int)))) (by kernel_rfl) ?_)
 refine ifB_mk (fun a1=>ifB_mk (fun a2=>h1 fun q=>?_) (fun a2=>ifB_mk (fun a3=>ifB_mk (fun a4=>h1 fun q=>?_) (fun a4=>ifB_mk (fun a5=>ifB_mk (fun a6=>h1 fun q=>?_) (fun a6=>?_)) (fun a5=>h1 fun q=>?_))) (fun a3=>h1 fun q=>?_))) (fun a1=>h1 fun q=>?_)
 ·simp at a2; have:=q.1; omega
 ·simp at a4; have:=q.2.1; omega
 ·simp at a6; have:=q.2.2.1; omega
 rotate_left
 ·simp at a5; have:=q.2.2.1; omega
 ·simp at a3; have:=q.2.1; omega
 ·simp at a1; have:=q.1; omega
 simp at a1 a2 a3 a4 a5 a6
 have sz:=sizes ⟨a1,a2⟩ ⟨a3,a4⟩ ⟨a5,a6⟩
 rw [wr (n:=w * d) (by omega) (by omega),wr (by omega) (by omega)]
 refine ifB_mk (fun b=>h1 fun q=>?_) (fun b=>?_) <;> rw [nb_length] at b
 ·simp at b; exact b q.2.2.2.1
 have b:(c.length:Int)=w * d * h:=by simpa using b
 refine full32 hu (by omega) (onIntK_iv ?_)
 refine ifB_mk (fun c1=>ifB_mk (fun c2=>h1 fun q=>?_) (fun c2=>?_)) (fun c1=>h1 fun q=>?_)
 ·simp at c2; have:=q.2.2.2.2.1; omega
 rotate_left
 ·simp at c1; have:=q.2.2.2.2.1; omega
 simp at c1 c2
 refine La.of (σ:=Nat) (fun k=>sh11 u c k) (fun k=>k≤c.length ∧ ∀ x∈c.take k,x≤15) (fun k=>c.length - k) 0 (by kernel_rfl) (by simp) ?_
 rintro k ⟨g1,g2⟩ J hJ
 refine see (p:=ifB (decide ((↑k:Int)<(↑(nb c).length:Int))) (need (u=1) (onSome (nb c)[k]? fun row=>onSome row[0]? fun v=>onIntK IntKind.u8 v fun n=>ifB (decide (n > (15:Int))) (R (iv (70:Int))) (J (St.mk (mkT [(40,V.lst u (nb c)),(41,iv (↑(nb c).length:Int)),(42,iv (IntKind.i64.wrap ((↑k:Int)+(1:Int))))]) (Hp.mk [] 0 []))))) (R (iv (0:Int)))) (by kernel_rfl) ?_
 refine ifB_mk (fun hb=>?_) (fun hb=>?_) <;> rw [nb_length] at hb
 ·have hlt:k<c.length:=by have:=of_decide_eq_true hb; omega
  have e1:c[k]? = some (c.getD k 0):=by simp [List.getD,hlt]
  have hu1:u=1:=hu.resolve_right (by rintro rfl; simp at hlt)
  refine need_mk ⟨hu1,nbel e1 ?_⟩
  refine ifB_mk (fun hb=>h1 fun q=>?_) (fun hb=>?_)
  ·have:=q.2.2.2.2.2 _ (List.mem_of_getElem? e1)
   have hb:=of_decide_eq_true hb
   omega
  ·rw [wr1i hlt (by omega)]
   refine hJ (k+1) ⟨hlt,fun x hx=>?_⟩ (by omega)
   rw [List.take_add_one,e1] at hx
   rcases List.mem_append.1 hx with q | q
   ·exact g2 x q
   ·have hb:=of_decide_eq_false hb
    have q:x=c.getD k 0:=by simpa using q
    omega
 ·have hk:k=c.length:=by have:=of_decide_eq_false hb; omega
  rw [hk,List.take_length] at g2
  exact h0 ⟨⟨a1,a2⟩,⟨a3,a4⟩,⟨a5,a6⟩,b,⟨by omega,by omega⟩,g2⟩
theorem ptl_get {l:List Pt} {i:Nat} {x:Pt} (h:l[i]? = some x):(ptl l)[i]? = some (ptr4 x):=by simp [ptl,h]
theorem getI {α:Type} {l:List α} {k:Nat} (h:k<l.length) : ∃ x,l[k]? = some x:=⟨l[k],by simp [h]⟩
theorem wr_pred {k:Nat} (h:0<k) (hk:k≤1000000):IntKind.i64.wrap ((k:Int) - 1)=((k - 1:Nat):Int):=by rw [wr (by omega) (by omega)]; omega
def POK (x:Pt):Prop:=(1≤x.1∧x.1≤x.2.1)∧(1≤x.2.1∧x.2.1≤8)∧(0≤x.2.2.1∧x.2.2.1≤99)∧x.2.2.2≤15
def BefP (x y:Pt):Prop:=x.1<y.1∨x.1=y.1∧(x.2.1<y.2.1∨x.2.1=y.2.1∧x.2.2.2<y.2.2.2)
def FolP (x y:Pt):Prop:=x.1<y.1∨x.1=y.1∧(x.2.1<y.2.1∨x.2.1=y.2.1∧0<x.2.2.2∧x.2.2.2<y.2.2.2)
def PtOK (l:List Pt):Prop:=(1≤l.length∧l.length≤8)∧(∀ (i:Nat) (x:Pt),l[i]? = some x→POK x) ∧ ∀ (i:Nat) (x y:Pt),l[i]? = some x→l[i+1]? = some y→FolP x y
theorem follows35 {x y:Pt} {R:V→Prop} (ht:FolP x y→R (bv true)) (hf : ¬ FolP x y→R (bv false)):K0G Tryd.prog glX 51 [.agg (ptr4 x),.agg (ptr4 y)] R:=by
 refine K0_of_WY0 hmX hcK 3000 Tryd.func51 (see (p:=ifB (x.1 != x.1) (ifB (y.1 != y.1) (ifB (x.2.1 != x.2.1) (ifB (y.2.1 != y.2.1) (ifB (decide ((0:Int)<(↑x.2.2.2:Int))) (R (bv (decide ((↑x.2.2.2:Int)<(↑y.2.2.2:Int))))) (R (bv false))) (R (bv true))) (ifB (y.2.1 != y.2.1) (R (bv false)) (ifB (decide (x.2.1<y.2.1)) (R (bv true)) (ifB (decide (x.2.1 > y.2.1)) (R (bv false)) (ifB (decide ((0:Int)<(↑x.2.2.2:Int))) (R (bv (decide ((↑x.2.2.2:Int)<(↑y.2.2.2:Int))))) (R (bv false))))))) (R (bv true))) (ifB (y.1 != y.1) (R (bv false)) (ifB (decide (x.1<y.1)) (R (bv true)) (ifB (decide (x.1 > y.1)) (R (bv false)) (ifB (x.2.1 != x.2.1) (ifB (y.2.1 != y.2.1) (ifB (decide ((0:Int)<(↑x.2.2.2:Int))) (R (bv (decide ((↑x.2.2.2:Int)<(↑y.2.2.2:Int))))) (R (bv false))) (R (bv true))) (ifB (y.2.1 != y.2.1) (R (bv false)) (ifB (decide (x.2.1<y.2.1)) (R (bv true)) (ifB (decide (x.2.1 > y.2.1)) (R (bv false)) (ifB (decide ((0:Int)<(↑x.2.2.2:Int))) (R (bv (decide ((↑x.2.2.2:Int)<(↑y.2.2.2:Int))))) (R (bv false))))))))))) (by kernel_rfl) ?_)
 unfold FolP at ht hf
 refine ifB_f (by simp) (ifB_f (by simp) (ifB_mk (fun a=>ht (.inl (of_decide_eq_true a))) (fun a=>?_)))
 have a:=of_decide_eq_false a
 refine ifB_mk (fun b=>hf (by have:=of_decide_eq_true b; omega)) (fun b=>?_)
 have b:=of_decide_eq_false b
 refine ifB_f (by simp) (ifB_f (by simp) (ifB_mk (fun c=>ht (by have:=of_decide_eq_true c; omega)) (fun c=>?_)))
 have c:=of_decide_eq_false c
 refine ifB_mk (fun d=>hf (by have:=of_decide_eq_true d; omega)) (fun d=>?_)
 have d:=of_decide_eq_false d
 refine ifB_mk (fun e=>?_) (fun e=>hf (by have:=of_decide_eq_false e; omega))
 have e:=of_decide_eq_true e
 by_cases q:(x.2.2.2:Int)<(y.2.2.2:Int)
 ·rw [decide_eq_true q]; exact ht (by omega)
 ·rw [decide_eq_false q]; exact hf (by omega)
theorem before64 {x y:Pt} {R:V→Prop} (ht:BefP x y→R (bv true)) (hf : ¬ BefP x y→R (bv false)):K0G Tryd.prog glX 80 [.agg (ptr4 x),.agg (ptr4 y)] R:=by
 refine K0_of_WY0 hmX hcK 3000 Tryd.func80 (see (p:=ifB (decide (x.1<y.1)) (R (bv true)) (ifB (x.1==y.1) (ifB (decide (x.2.1<y.2.1)) (R (bv true)) (ifB (x.2.1==y.2.1) (R (bv (decide ((↑x.2.2.2:Int)<(↑y.2.2.2:Int))))) (R (bv false)))) (R (bv false)))) (by kernel_rfl) ?_)
 unfold BefP at ht hf
 refine ifB_mk (fun a=>ht (.inl (of_decide_eq_true a))) (fun a=>?_)
 have a:=of_decide_eq_false a
 refine ifB_mk (fun b=>?_) (fun b=>hf (by have:=(by simpa using b:x.1≠y.1); omega))
 have b:x.1=y.1:=by simpa using b
 refine ifB_mk (fun c=>ht (by have:=of_decide_eq_true c; omega)) (fun c=>?_)
 have c:=of_decide_eq_false c
 refine ifB_mk (fun d=>?_) (fun d=>hf (by have:=(by simpa using d:x.2.1≠y.2.1); omega))
 have d:x.2.1=y.2.1:=by simpa using d
 by_cases q:(x.2.2.2:Int)<(y.2.2.2:Int)
 ·rw [decide_eq_true q]; exact ht (by omega)
 ·rw [decide_eq_false q]; exact hf (by omega)
def Pto (l:List Pt) (k:Nat):Prop:=(∀ (i:Nat) (x:Pt),i<k→l[i]? = some x→POK x) ∧ ∀ (i:Nat) (x y:Pt),i+1<k→l[i]? = some x→l[i+1]? = some y→FolP x y
theorem pto_step {l:List Pt} {k:Nat} {x:Pt} (h:Pto l k) (hx:l[k]? = some x) (h1:POK x) (h2 : ∀ y,0<k→l[k - 1]? = some y→FolP y x):Pto l (k+1):=by
 refine ⟨fun i z hi hz=>?_,fun i z w hi hz hw=>?_⟩
 ·rcases Nat.lt_succ_iff_lt_or_eq.1 hi with q | q
  ·exact h.1 i z q hz
  ·subst q; rw [hx] at hz; cases hz; exact h1
 ·rcases Nat.lt_succ_iff_lt_or_eq.1 hi with q | q
  ·exact h.2 i z w q hz hw
  ·subst q; rw [hx] at hw; cases hw; exact h2 z (by omega) hz
theorem check13 {l:List Pt} {R:V→Prop} (h0:PtOK l→R (iv 0)) (h1 : ¬ PtOK l→R (iv 71)):K0G Tryd.prog glX 18 [.lst 4 (ptl l)] R:=by
 refine K0_of_WY0 hmX hcK 3000 Tryd.func18 (see (p:=ifB (decide ((1:Int)≤(↑(ptl l).length:Int))) (ifB (!decide ((↑(ptl l).length:Int)≤(8:Int))) (R (iv (71:Int))) (La 0 [(0:Tmp),(9:Tmp),(10:Tmp),(11:Tmp)] (WY Tryd.prog cfK 2994 (Env.mk (Bs.mk 0 []) 0 none 34 18 0) (cdAt [1,1,0,1,0,0] (bodyOf Tryd.f18))) (Qblk 0 (Qthen (WY Tryd.prog cfK 2997 (Env.mk (Bs.mk 0 []) 0 none 34 18 0) (cdAt [1,1,1] (bodyOf Tryd.f18)) (QendX Tryd.prog Tryd.f18 fun v h=>R (frzW h v))) (QendX Tryd.prog Tryd.f18 fun v h=>R (frzW h v)))) (St.mk (mkT [(0,V.lst 4 (ptl l)),(9,V.lst 4 (ptl l)),(10,iv (↑(ptl l).length:Int)),(11,iv (0:Int))]) (Hp.mk [] 0 [])))) (R (iv (71:Int)))) (by kernel_rfl) ?_)
 refine ifB_mk (fun a=>ifB_mk (fun b=>h1 fun q=>?_) (fun b=>?_)) (fun a=>h1 fun q=>?_)
 ·rw [ptl_length] at b; simp at b; have:=q.1; omega
 rotate_left
 ·rw [ptl_length] at a; have a:=of_decide_eq_false a; have:=q.1.1; omega
 have a:=of_decide_eq_true a
 have b:((ptl l).length:Int)≤8:=by simpa using b
 rw [ptl_length] at a b
 refine La.of (σ:=Nat) (fun k=>sh13 l k) (fun k=>k≤l.length∧Pto l k) (fun k=>l.length - k) 0 (by kernel_rfl) ⟨by simp,fun i x hi=>by omega,fun i x y hi=>by omega⟩ ?_
 rintro k ⟨g1,g2⟩ J hJ
 refine see (p:=ifB (decide ((↑k:Int)<(↑(ptl l).length:Int))) (onSome (ptl l)[k]? fun row=>onCons (List.drop 0 row) fun u r=>onIntK IntKind.i64 u fun n=>onCons r fun u r=>onIntK IntKind.i64 u fun n_1=>onCons r fun u r=>onIntK IntKind.i64 u fun n_2=>onCons r fun u r=>onIntK IntKind.u8 u fun n_3=>ifB (decide ((1:Int)≤n_1)) (ifB (decide (n_1≤(8:Int))) (ifB (decide ((1:Int)≤n)) (ifB (decide (n≤n_1)) (ifB (decide ((0:Int)≤n_2)) (ifB (decide (n_2≤(99:Int))) (ifB (!decide (n_3≤(15:Int))) (R (iv (71:Int))) (ifB (decide ((↑k:Int) > (0:Int))) (onNat (IntKind.i64.wrap ((↑k:Int) - (1:Int))) fun m=>onSome (ptl l)[m]? fun row=>onCons (List.drop 0 row) fun u r=>onIntK IntKind.i64 u fun n_4=>onCons r fun u r=>onIntK IntKind.i64 u fun n_5=>onCons r fun u r=>onIntK IntKind.i64 u fun n_6=>onCons r fun u r=>onIntK IntKind.u8 u fun n_7=>K0G Tryd.prog glX 51 [V.agg [iv n_4,iv n_5,iv n_6,V.raw (Value.int IntKind.u8 n_7)],V.agg [iv n,iv n_1,iv n_2,V.raw (Value.int IntKind.u8 n_3)]] fun v=>onBool v fun b=>ifB (!b) (R (iv (71:Int))) (J (St.mk (mkT [(0,V.lst 4 (ptl l)),(9,V.lst 4 (ptl l)),(10,iv (↑(ptl l).length:Int)),(11,iv (IntKind.i64.wrap ((↑k:Int)+(1:Int))))]) (Hp.mk [] 0 [])))) (J (St.mk (mkT [(0,V.lst 4 (ptl l)),(9,V.lst 4 (ptl l)),(10,iv (↑(ptl l).length:Int)),(11,iv (IntKind.i64.wrap ((↑k:Int)+(1:Int))))]) (Hp.mk [] 0 []))))) (R (iv (71:Int)))) (R (iv (71:Int)))) (R (iv (71:Int)))) (R (iv (71:Int)))) (R (iv (71:Int)))) (R (iv (71:Int)))) (R (iv (0:Int)))) (by kernel_rfl) ?_
 refine ifB_mk (fun hb=>?_) (fun hb=>?_) <;> rw [ptl_length] at hb
 ·have hlt:k<l.length:=by have:=of_decide_eq_true hb; omega
  obtain ⟨x,hx⟩:=getI hlt
  refine onSome_mk (ptl_get hx) (onCons_cons (onIntK_iv (onCons_cons (onIntK_iv (onCons_cons (onIntK_iv (onCons_cons (onIntK_u8 ?_))))))))
  have bad : ¬ POK x→R (iv 71):=fun g=>h1 fun q=>g (q.2.1 k x hx)
  unfold POK at bad
  refine ifB_mk (fun c1=>?_) (fun c1=>bad (by have:=of_decide_eq_false c1; omega))
  refine ifB_mk (fun c2=>?_) (fun c2=>bad (by have:=of_decide_eq_false c2; omega))
  refine ifB_mk (fun c3=>?_) (fun c3=>bad (by have:=of_decide_eq_false c3; omega))
  refine ifB_mk (fun c4=>?_) (fun c4=>bad (by have:=of_decide_eq_false c4; omega))
  refine ifB_mk (fun c5=>?_) (fun c5=>bad (by have:=of_decide_eq_false c5; omega))
  refine ifB_mk (fun c6=>?_) (fun c6=>bad (by have:=of_decide_eq_false c6; omega))
  refine ifB_mk (fun c7=>bad (by have:=(by simpa using c7 : ¬ (x.2.2.2:Int)≤15); omega)) (fun c7=>?_)
  have c7:(x.2.2.2:Int)≤15:=by simpa using c7
  have c1:=of_decide_eq_true c1
  have c2:=of_decide_eq_true c2
  have c3:=of_decide_eq_true c3
  have c4:=of_decide_eq_true c4
  have c5:=of_decide_eq_true c5
  have c6:=of_decide_eq_true c6
  have hp:POK x:=⟨⟨c3,c4⟩,⟨c1,c2⟩,⟨c5,c6⟩,by omega⟩
  rw [wr1i hlt (by omega)]
  refine ifB_mk (fun d=>?_) (fun d=>hJ (k+1) ⟨hlt,pto_step g2 hx hp (fun y hy=>by have:=of_decide_eq_false d; omega)⟩ (by omega))
  have d:0<k:=by have:=of_decide_eq_true d; omega
  rw [wr_pred d (by omega)]
  obtain ⟨y,hy⟩:=getI (l:=l) (k:=k - 1) (by omega)
  refine onNat_mk rfl (onSome_mk (ptl_get hy) (onCons_cons (onIntK_iv (onCons_cons (onIntK_iv (onCons_cons (onIntK_iv (onCons_cons (onIntK_u8 ?_)))))))))
  refine follows35 (x:=y) (y:=x) (fun f=>onBool_bv (ifB_f rfl ?_)) (fun f=>onBool_bv (ifB_t rfl ?_))
  ·exact hJ (k+1) ⟨hlt,pto_step g2 hx hp (fun z _ hz=>by rw [hy] at hz; cases hz; exact f)⟩ (by omega)
  ·exact h1 fun q=>f (q.2.2 (k - 1) y x hy (by rw [show k - 1+1=k from by omega]; exact hx))
 ·have hk:k=l.length:=by have:=of_decide_eq_false hb; omega
  subst hk
  refine h0 ⟨⟨by omega,by omega⟩,fun i x hx=>g2.1 i x (List.getElem?_eq_some_iff.1 hx).1 hx,fun i x y hx hy=>g2.2 i x y (List.getElem?_eq_some_iff.1 hy).1 hx hy⟩
theorem plates36 {l:List Pt} {R:V→Prop} (h0:PtOK l→R (bv true)) (h1 : ¬ PtOK l→R (bv false)):K0G Tryd.prog glX 52 [.lst 4 (ptl l)] R:=by
 refine K0_of_WY0 hmX hcK 3000 Tryd.func52 (see (p:=ifB (decide ((↑(ptl l).length:Int) ≥ (1:Int))) (ifB (!decide ((↑(ptl l).length:Int)≤(8:Int))) (R (bv false)) (La 0 [(0:Tmp),(3:Tmp)] (WY Tryd.prog cfK 2994 (Env.mk (Bs.mk 0 []) 0 none 85 52 0) (cdAt [1,1,0,1,0,0] (bodyOf Tryd.f52))) (Qblk 0 (Qthen (WY Tryd.prog cfK 2997 (Env.mk (Bs.mk 0 []) 0 none 85 52 0) (cdAt [1,1,1] (bodyOf Tryd.f52)) (QendX Tryd.prog Tryd.f52 fun v h=>R (frzW h v))) (QendX Tryd.prog Tryd.f52 fun v h=>R (frzW h v)))) (St.mk (mkT [(0,V.lst 4 (ptl l)),(3,iv (0:Int))]) (Hp.mk [] 0 [])))) (R (bv false))) (by kernel_rfl) ?_)
 refine ifB_mk (fun a=>ifB_mk (fun b=>h1 fun q=>?_) (fun b=>?_)) (fun a=>h1 fun q=>?_)
 ·rw [ptl_length] at b; simp at b; have:=q.1; omega
 rotate_left
 ·rw [ptl_length] at a; have a:=of_decide_eq_false a; have:=q.1.1; omega
 have a:=of_decide_eq_true a
 have b:((ptl l).length:Int)≤8:=by simpa using b
 rw [ptl_length] at a b
 refine La.of (σ:=Nat) (fun k=>sh36 l k) (fun k=>k≤l.length∧Pto l k) (fun k=>l.length - k) 0 (by kernel_rfl) ⟨by simp,fun i x hi=>by omega,fun i x y hi=>by omega⟩ ?_
 rintro k ⟨g1,g2⟩ J hJ
 refine see (p:=ifB (decide ((↑k:Int)<(↑(ptl l).length:Int))) (onSome (ptl l)[k]? fun row=>onCons (List.drop 0 row) fun u r=>onIntK IntKind.i64 u fun n=>onCons r fun u r=>onIntK IntKind.i64 u fun n_1=>onCons r fun u r=>onIntK IntKind.i64 u fun n_2=>onCons r fun u r=>onIntK IntKind.u8 u fun n_3=>ifB (decide (n ≥ (1:Int))) (ifB (!decide (n≤n_1)) (R (bv false)) (ifB (decide (n_1 ≥ (1:Int))) (ifB (!decide (n_1≤(8:Int))) (R (bv false)) (ifB (decide (n_2 ≥ (0:Int))) (ifB (!decide (n_2≤(99:Int))) (R (bv false)) (ifB (decide (n_3 > (15:Int))) (R (bv false)) (ifB (decide ((↑k:Int) > (0:Int))) (onNat (IntKind.i64.wrap ((↑k:Int) - (1:Int))) fun m=>onSome (ptl l)[m]? fun row=>onCons (List.drop 0 row) fun u r=>onIntK IntKind.i64 u fun n_4=>onCons r fun u r=>onIntK IntKind.i64 u fun n_5=>onCons r fun u r=>onIntK IntKind.i64 u fun n_6=>onCons r fun u r=>onIntK IntKind.u8 u fun n_7=>K0G Tryd.prog glX 80 [V.agg [iv n_4,iv n_5,iv n_6,V.raw (Value.int IntKind.u8 n_7)],V.agg [iv n,iv n_1,iv n_2,V.raw (Value.int IntKind.u8 n_3)]] fun v=>onBool v fun b=>ifB (!b) (R (bv false)) (onNat (IntKind.i64.wrap ((↑k:Int) - (1:Int))) fun m=>onSome (ptl l)[m]? fun row=>onSome row[0]? fun v=>onIntK IntKind.i64 v fun n_8=>ifB (n_8==n) (onNat (IntKind.i64.wrap ((↑k:Int) - (1:Int))) fun m=>onSome (ptl l)[m]? fun row=>onSome row[1]? fun v=>onIntK IntKind.i64 v fun n=>ifB (n==n_1) (onNat (IntKind.i64.wrap ((↑k:Int) - (1:Int))) fun m=>onSome (ptl l)[m]? fun row=>onSome row[3]? fun v=>onIntK IntKind.u8 v fun n=>ifB (n==(0:Int)) (R (bv false)) (J (St.mk (mkT [(0,V.lst 4 (ptl l)),(3,iv (IntKind.i64.wrap ((↑k:Int)+(1:Int))))]) (Hp.mk [] 0 [])))) (J (St.mk (mkT [(0,V.lst 4 (ptl l)),(3,iv (IntKind.i64.wrap ((↑k:Int)+(1:Int))))]) (Hp.mk [] 0 [])))) (J (St.mk (mkT [(0,V.lst 4 (ptl l)),(3,iv (IntKind.i64.wrap ((↑k:Int)+(1:Int))))]) (Hp.mk [] 0 []))))) (J (St.mk (mkT [(0,V.lst 4 (ptl l)),(3,iv (IntKind.i64.wrap ((↑k:Int)+(1:Int))))]) (Hp.mk [] 0 [])))))) (R (bv false)))) (R (bv false)))) (R (bv false))) (R (bv true))) (by kernel_rfl) ?_
 refine ifB_mk (fun hb=>?_) (fun hb=>?_) <;> rw [ptl_length] at hb
 ·have hlt:k<l.length:=by have:=of_decide_eq_true hb; omega
  obtain ⟨x,hx⟩:=getI hlt
  refine onSome_mk (ptl_get hx) (onCons_cons (onIntK_iv (onCons_cons (onIntK_iv (onCons_cons (onIntK_iv (onCons_cons (onIntK_u8 ?_))))))))
  have bad : ¬ POK x→R (bv false):=fun g=>h1 fun q=>g (q.2.1 k x hx)
  unfold POK at bad
  refine ifB_mk (fun c3=>?_) (fun c3=>bad (by have:=of_decide_eq_false c3; omega))
  refine ifB_mk (fun c4=>bad (by have:=(by simpa using c4 : ¬ x.1≤x.2.1); omega)) (fun c4=>?_)
  refine ifB_mk (fun c1=>?_) (fun c1=>bad (by have:=of_decide_eq_false c1; omega))
  refine ifB_mk (fun c2=>bad (by have:=(by simpa using c2 : ¬ x.2.1≤8); omega)) (fun c2=>?_)
  refine ifB_mk (fun c5=>?_) (fun c5=>bad (by have:=of_decide_eq_false c5; omega))
  refine ifB_mk (fun c6=>bad (by have:=(by simpa using c6 : ¬ x.2.2.1≤99); omega)) (fun c6=>?_)
  refine ifB_mk (fun c7=>bad (by have:=of_decide_eq_true c7; omega)) (fun c7=>?_)
  have c7:=of_decide_eq_false c7
  have c1:=of_decide_eq_true c1
  have c2:x.2.1≤8:=by simpa using c2
  have c3:=of_decide_eq_true c3
  have c4:x.1≤x.2.1:=by simpa using c4
  have c5:=of_decide_eq_true c5
  have c6:x.2.2.1≤99:=by simpa using c6
  have hp:POK x:=⟨⟨c3,c4⟩,⟨c1,c2⟩,⟨c5,c6⟩,by omega⟩
  rw [wr1i hlt (by omega)]
  refine ifB_mk (fun d=>?_) (fun d=>hJ (k+1) ⟨hlt,pto_step g2 hx hp (fun y hy=>by have:=of_decide_eq_false d; omega)⟩ (by omega))
  have d:0<k:=by have:=of_decide_eq_true d; omega
  rw [wr_pred d (by omega)]
  obtain ⟨y,hy⟩:=getI (l:=l) (k:=k - 1) (by omega)
  have hyx:l[k - 1+1]? = some x:=by rw [show k - 1+1=k from by omega]; exact hx
  have on:FolP y x→J (sh36 l (k+1)):=fun f=>hJ (k+1) ⟨hlt,pto_step g2 hx hp (fun z _ hz=>by rw [hy] at hz; cases hz; exact f)⟩ (by omega)
  have no : ¬ FolP y x→R (bv false):=fun f=>h1 fun q=>f (q.2.2 (k - 1) y x hy hyx)
  refine onNat_mk rfl (onSome_mk (ptl_get hy) (onCons_cons (onIntK_iv (onCons_cons (onIntK_iv (onCons_cons (onIntK_iv (onCons_cons (onIntK_u8 ?_)))))))))
  unfold FolP at on no
  refine before64 (x:=y) (y:=x) (fun f=>onBool_bv (ifB_f rfl ?_)) (fun f=>onBool_bv (ifB_t rfl ?_))
  ·unfold BefP at f
   refine onNat_mk rfl (onSome_mk (ptl_get hy) (onSome_mk (x:=iv y.1) rfl (onIntK_iv (ifB_mk (fun e1=>?_) (fun e1=>on (by have:=(by simpa using e1:y.1≠x.1); omega))))))
   have e1:y.1=x.1:=by simpa using e1
   refine onNat_mk rfl (onSome_mk (ptl_get hy) (onSome_mk (x:=iv y.2.1) rfl (onIntK_iv (ifB_mk (fun e2=>?_) (fun e2=>on (by have:=(by simpa using e2:y.2.1≠x.2.1); omega))))))
   have e2:y.2.1=x.2.1:=by simpa using e2
   refine onNat_mk rfl (onSome_mk (ptl_get hy) (onSome_mk (x:=u8v (y.2.2.2:Int)) rfl (onIntK_u8 (ifB_mk (fun e3=>no (by have:=(by simpa using e3:(y.2.2.2:Int)=0); omega)) (fun e3=>on (by have:=(by simpa using e3 : ¬ (y.2.2.2:Int)=0); omega))))))
  ·unfold BefP at f
   exact no (by omega)
 ·have hk:k=l.length:=by have:=of_decide_eq_false hb; omega
  subst hk
  refine h0 ⟨⟨by omega,by omega⟩,fun i x hx=>g2.1 i x (List.getElem?_eq_some_iff.1 hx).1 hx,fun i x y hx hy=>g2.2 i x y (List.getElem?_eq_some_iff.1 hy).1 hx hy⟩
end Go.Proofs.YtkkgicjioajimaaDoor
namespace Go.Proofs.YtkkgicjioajimaaDoor.Clean
set_option linter.unusedVariables false
def rawD:TypeDesc→Bool
 | .int _ | .bool | .string=>true
 | _=>false
def openD (ds:List TypeDesc) (v:V) (k:V→Prop):Prop:=match ds with
 | [d]=>guardB (rawD d) (typed d true v k)
 | ds=>guardB (ds.all rawD) (onTup v fun vs=>onTypedE true ds vs fun cs=>k (.tup cs))
theorem typed_raw {d:TypeDesc} {p:Bool} {v:V} {k:V→Prop} (hd:rawD d=true) (h:typed d p v k) : ∃ u,v = .raw u∧k (.raw u):=by
 unfold rawD at hd
 split at hd
 ·rename_i kk
  have h:onIntK kk v fun n=>k (.raw (.int kk n)):=h
  unfold onIntK at h
  split at h
  ·rename_i kk' n
   rw [guardB_iff] at h
   have e:=h.1
   simp at e
   subst e
   exact ⟨_,rfl,h.2⟩
  ·exact h.elim
 ·have h:onBool v fun b=>k (.raw (.bool b)):=h
  unfold onBool at h
  split at h
  ·exact ⟨_,rfl,h⟩
  ·exact h.elim
 ·have h:onStr v fun b=>k (.raw (.string b)):=h
  unfold onStr at h
  split at h
  ·exact ⟨_,rfl,h⟩
  ·exact h.elim
 ·cases hd
theorem onTypedE_raw {p:Bool} : ∀ {ds:List TypeDesc} {l:List V} {k:List V→Prop},ds.all rawD=true→onTypedE p ds l k → ∃ us:List Value,l=us.map .raw∧k (us.map .raw)
 | [],l,k,_,h=>by
  cases l with
  | nil=>exact ⟨[],rfl,h⟩
  | cons v r=>exact h.elim
 | d::ds,l,k,hd,h=>by
  rw [List.all_cons,Bool.and_eq_true] at hd
  cases l with
  | nil=>exact h.elim
  | cons v r =>
   have h:typed d p v fun v=>onTypedE p ds r fun cs=>k (v::cs):=h
   obtain ⟨u,rfl,h2⟩:=typed_raw hd.1 h
   obtain ⟨us,rfl,h3⟩:=onTypedE_raw hd.2 h2
   exact ⟨u::us,rfl,h3⟩
theorem riL_raws {F F' : Nat→Prop} {w w' : World} {ν:Nu} : ∀ {us:List Value} {xs:List Value},riL F w (us.map .raw) xs→repL F' w' ν (us.map .raw) xs
 | [],xs,h=>by simpa only [List.map_nil,riL,repL] using h
 | u::us,xs,h=>by
  simp only [List.map_cons,riL,ri] at h
  obtain ⟨x,ys,rfl,rfl,h3⟩:=h
  simp only [List.map_cons,repL,rep]
  exact ⟨_,_,rfl,rfl,riL_raws h3⟩
theorem openD_rep {ds:List TypeDesc} {v:V} {k:V→Prop} (h:openD ds v k) {F:Nat→Prop} {w:World} {x:Value} (hr:ri F w v x) : ∃ v', k v' ∧ ∀ (F' : Nat→Prop) (w' : World) (ν:Nu),rep F' w' ν v' x:=by
 unfold openD at h
 split at h
 ·rename_i d
  rw [guardB_iff] at h
  obtain ⟨u,rfl,h2⟩:=typed_raw h.1 h.2
  exact ⟨_,h2,fun F' w' ν=>by simp only [ri] at hr; simp only [rep]; exact hr⟩
 ·rw [guardB_iff] at h
  obtain ⟨h1,h2⟩:=h
  cases v <;> simp only [onTup] at h2 <;> first | exact h2.elim | skip
  rename_i vs
  obtain ⟨us,rfl,h3⟩:=onTypedE_raw h1 h2
  refine ⟨_,h3,fun F' w' ν=>?_⟩
  simp only [ri] at hr
  obtain ⟨arr,h4,h5⟩:=hr
  simp only [rep]
  exact ⟨arr,h4,riL_raws h5⟩
theorem frzStep_ok {F F' : Nat→Prop} {w:World} {ν:Nu} {h:Hp} (hh:HeapOK ν F h w) (bs:Id→Bool) (hF : ∀ r,F r→F' r) (hF' : ∀ b r s n,bs b=true→ν.at_ b=some (r,s,n)→F' r) {τ:Id→Tr} (ih:TrOK F F' w ν nu0 τ) (hcl : ∀ b b', τ b ≠ .ren b'):TrOK F F' w ν nu0 (frzStep bs h τ):=by
 intro b hb
 cases b with
 | m B k =>
  simp only [frzStep]
  cases hbs:bs (.m B k) with
  | false=>simp
  | true =>
  simp only [cond_true]
  cases hf:getF h.fs B with
  | none=>simp
  | some f =>
  simp only []
  cases hm:memb f.ms k with
  | none=>simp
  | some es =>
  have hg:h.get (.m B k)=some (.rows f.s true es):=by simp [Hp.get,hf,hm]
  by_cases hph:ν.ph (.m B k)=true
  ·obtain ⟨s,p,hes⟩ : ∃ s p,O.rows f.s true es = .rows s p []:=by
    rcases hh.dom _ _ hg with ⟨x,hx⟩ | ⟨_,h⟩
    ·have:=ν.phx _ x hx; rw [hph] at this; cases this
    ·exact h
   cases hes
   simp [hph]
  obtain ⟨⟨r,s', n⟩,hat⟩:=hh.domP _ _ hg (by simpa using hph)
  obtain ⟨rfl,g2,_⟩:=hh.blkR hg hat
  have hrw:=rowsW_own hh hg hat
  refine .inr ⟨r,by rw [g2]; exact hat,hF' _ _ _ _ hbs hat,fun i row hrow=>?_⟩
  obtain ⟨k1,k2⟩:=hrw i row hrow
  refine ⟨k1,fun j v hj=>?_⟩
  obtain ⟨x,k3,k4,k5⟩:=k2 j v hj
  exact ⟨x,k3,k4,ri_mono hF (fun _ _=>rfl) v x k5⟩
 | p b =>
 simp only [frzStep]
 cases hbs:bs (.p b) with
 | false=>simp
 | true =>
 simp only [cond_true]
 cases hg:h.get (.p b) with
 | none =>
  have hg' : getB h.bs b=none:=hg
  simp [hg']
 | some o =>
  have hg' : getB h.bs b=some o:=hg
  by_cases hph:ν.ph (.p b)=true
  ·obtain ⟨s,p,rfl⟩ : ∃ s p,o = .rows s p []:=by
    rcases hh.dom _ o hg with ⟨x,hx⟩ | ⟨_,h⟩
    ·have:=ν.phx _ x hx; rw [hph] at this; cases this
    ·exact h
   cases p <;> simp [hg', hph]
  obtain ⟨⟨r,s', n⟩,hat⟩:=hh.domP _ o hg (by simpa using hph)
  cases o with
  | mp es =>
   simp only [hg']
   obtain ⟨r2,s2,n2,ents,g1,g2,g3⟩:=hh.blkM hg
   refine ⟨r2,s2,n2,ents,g1,hF' _ _ _ _ hbs g1,g2,fun hcl=>⟨g3.1,fun i kv hi=>?_⟩⟩
   obtain ⟨e,k1,k2,k3,k4⟩:=g3.2 i kv hi
   have hc:=List.all_eq_true.1 hcl kv (List.mem_of_getElem? hi)
   rw [Bool.and_eq_true] at hc
   exact ⟨e,k1,k2,ri_mono hF (fun _ _=>rfl) _ _ (rep_ri _ _ hc.1 k3),ri_mono hF (fun _ _=>rfl) _ _ (rep_ri _ _ hc.2 k4)⟩
  | lp q=>simp [hg']
  | it x n seen=>simp [hg']
  | rows s p es =>
  obtain ⟨rfl,g2,_⟩:=hh.blkR hg hat
  have hrw:=rowsW_own hh hg hat
  cases p with
  | true =>
   simp only [hg']
   refine .inr ⟨r,by rw [g2]; exact hat,hF' _ _ _ _ hbs hat,fun i row hrow=>?_⟩
   obtain ⟨k1,k2⟩:=hrw i row hrow
   refine ⟨k1,fun j v hj=>?_⟩
   obtain ⟨x,k3,k4,k5⟩:=k2 j v hj
   exact ⟨x,k3,k4,ri_mono hF (fun _ _=>rfl) v x k5⟩
  | false =>
   simp only [hg']
   refine .inr ⟨r,by rw [List.length_map,g2]; exact hat,hF' _ _ _ _ hbs hat,fun i row hrow=>?_⟩
   rw [List.getElem?_map,Option.map_eq_some_iff] at hrow
   obtain ⟨row0,hrow0,rfl⟩:=hrow
   obtain ⟨k1,k2⟩:=hrw i row0 hrow0
   refine ⟨by rw [trL_length]; exact k1,fun j v hj=>?_⟩
   rw [trL_get,Option.map_eq_some_iff] at hj
   obtain ⟨v0,hv0,rfl⟩:=hj
   obtain ⟨x,k3,k4,k5⟩:=k2 j v0 hv0
   exact ⟨x,k3,k4,rep_ri _ x (tr_closed (hcl) v0) (rep_tr hF ih v0 x k5)⟩
def frz1 (h:Hp):Id→Tr
 | .p b=>match getB h.bs b with
  | some (.rows s true es) => .frz s es
  | some (.rows s false es) => .frz s (es.map (trL fun _ => .drop))
  | some (.mp es) => .frzm es
  | _ => .drop
 | .m _ _ => .drop
def frz2 (h:Hp):Id→Tr
 | .p b=>match getB h.bs b with
  | some (.rows s true es) => .frz s es
  | some (.rows s false es) => .frz s (es.map (trL (frz1 h)))
  | some (.mp es) => .frzm es
  | _ => .drop
 | .m _ _ => .drop
theorem TrOK.sub {F F' : Nat→Prop} {w:World} {ν ν' : Nu} {τ τ' : Id→Tr} (h:TrOK F F' w ν ν' τ) (hs : ∀ b,τ' b=τ b∨τ' b = .drop):TrOK F F' w ν ν' τ' := by
 intro b hb
 rcases hs b with e | e
 ·rw [e]; exact h b hb
 ·rw [e]; trivial
theorem frz1_sub (h:Hp) (b:Id):frz1 h b=frzStep (fun _=>true) h (fun _ => .drop) b∨frz1 h b = .drop:=by
 cases b with
 | m B k=>exact .inr rfl
 | p n =>
  simp only [frz1,frzStep,cond_true]
  cases getB h.bs n with
  | none=>exact .inr rfl
  | some o=>cases o with
   | rows s p es=>cases p <;> exact .inl rfl
   | mp es=>exact .inl rfl
   | lp q=>exact .inr rfl
   | it x n seen=>exact .inr rfl
theorem frz2_sub (h:Hp) (b:Id):frz2 h b=frzStep (fun _=>true) h (frz1 h) b∨frz2 h b = .drop:=by
 cases b with
 | m B k=>exact .inr rfl
 | p n =>
  simp only [frz2,frzStep,cond_true]
  cases getB h.bs n with
  | none=>exact .inr rfl
  | some o=>cases o with
   | rows s p es=>cases p <;> exact .inl rfl
   | mp es=>exact .inl rfl
   | lp q=>exact .inr rfl
   | it x n seen=>exact .inr rfl
theorem frz1_cl (h:Hp) : ∀ b b', frz1 h b ≠ .ren b' := by
 intro b b'
 cases b with
 | m B k=>simp [frz1]
 | p n=>simp only [frz1]; split <;> simp
theorem frz2_cl (h:Hp) : ∀ b b', frz2 h b ≠ .ren b' := by
 intro b b'
 cases b with
 | m B k=>simp [frz2]
 | p n=>simp only [frz2]; split <;> simp
theorem K_of_K0d {P:Program} {G:Nat→Option (List V)} {f:FuncId} {ds:List TypeDesc} {args:List V} {h:Hp} {k:V→Hp→Prop} (hb:K0G P G f (trL (frz2 h) args) (fun v=>openD ds v fun v=>k v h)) :
  K P G f args h (fun _=>false) k:=by
 intro ν F w xs hh hG hl
 have own_lt : ∀ r,ν.own r→r<w.heap.size:=fun r ho=>hh.own_lt ho
 have hlt : ∀ r,(F r∨ν.own r)→r<w.heap.size:=fun r hr=>hr.elim (fun h=>(hh.frz r h).1) fun h=>own_lt r h
 have ok : ∀ {τ:Id→Tr},TrOK F (fun r=>F r∨ν.own r) w ν nu0 τ→(∀ b b', τ b ≠ .ren b')→TrOK F (fun r=>F r∨ν.own r) w ν nu0 (frzStep (fun _=>true) h τ):=fun h1 h2=>frzStep_ok hh _ (fun r h => .inl h) (fun b r s n _ hat => .inr ⟨b,s,n,hat⟩) h1 h2
 have ht:TrOK F (fun r=>F r∨ν.own r) w ν nu0 (frz2 h):=(ok ((ok (fun b hb=>trivial) (fun b b' e=>by cases e)).sub (frz1_sub h)) (frz1_cl h)).sub (frz2_sub h)
 have hl' := repL_riL _ _ (trL_closed (frz2_cl h) args) (repL_tr (fun r h => .inl h) ht _ _ hl)
 have hG' : GlobOK G (fun r=>F r∨ν.own r) w:=fun g cs hg=>ri_mono (fun r h => .inl h) (fun _ _=>rfl) _ _ (hG g cs hg)
 refine (hb _ w xs hlt hG' hl').mono fun e' w' he=>?_
 obtain ⟨x,v,F'', rfl,hk,hv,hbl,q1,q2,q3⟩:=he
 obtain ⟨hh', he⟩:=heap_call0 (F' := fun r=>F r∨(F'' r∧w.heap.size≤r)) hh hbl (fun r h => .inl h) (fun r h=>h.elim .inl fun h => .inr h.2) (fun r h=>h.elim (fun h=>q3 r (q1 r (.inl h))) fun h=>q3 r h.1)
 obtain ⟨v', hk,hrv⟩:=openD_rep hk hv
 refine ⟨x,v', ν,_,_,rfl,hk,hh', hrv _ _ _,he,fun b y hy hb=>⟨hbl.block _ ?_,hy⟩⟩
 obtain ⟨r,s,n⟩:=y
 exact own_lt r ⟨b,s,n,hy⟩
def mapsK:List (Nat×O)→Prop→Prop
 | [],p=>p
 | (_,o)::r,p=>match o with
  | .mp es=>guardB (es.all closedE) (mapsK r p)
  | _=>mapsK r p
def tr1 (h:Hp) (v:V):V:=match v with
 | .mp b=>match b with
  | .p n=>match getB h.bs n with
   | some (.mp es) => .fmp es
   | _ => .junk
  | .m _ _ => .junk
 | v=>v.tr (frz1 h)
def tr2 (h:Hp) (v:V):V:=match v with
 | .ptr b i off=>match b with
  | .p n=>match getB h.bs n with
   | some (.rows _ false es) => .adr ((es.map fun row=>row.map (tr1 h)).getD i []) off
   | _=>(V.ptr (.p n) i off).tr (frz2 h)
  | .m B k=>(V.ptr (.m B k) i off).tr (frz2 h)
 | v=>v.tr (frz2 h)
theorem mapsK_iff : ∀ {bs:List (Nat×O)} {p:Prop},mapsK bs p→p ∧ ∀ n es,getB bs n=some (.mp es)→es.all closedE=true
 | [],p,h=>⟨h,fun n es he=>by simp [getB] at he⟩
 | (a,o)::r,p,h=>by
  have key : ∀ q:p∧(∀ n es,getB r n=some (.mp es)→es.all closedE=true),(∀ es,o = .mp es→es.all closedE=true)→p ∧ ∀ n es,getB ((a,o)::r) n=some (.mp es)→es.all closedE=true:=fun q ho=>by
   refine ⟨q.1,fun n es he=>?_⟩
   rw [getB_cons] at he
   split at he
   ·simp at he; exact ho es he
   ·exact q.2 n es he
  unfold mapsK at h
  split at h
  ·rename_i es
   rw [guardB_iff] at h
   exact key (mapsK_iff h.2) fun es' e=>by cases e; exact h.1
  ·rename_i hn
   exact key (mapsK_iff h) fun es e=>(hn es e).elim
theorem tr1_eq {h:Hp} (hm : ∀ n es,getB h.bs n=some (.mp es)→es.all closedE=true) (v:V):tr1 h v=v.tr (frz1 h):=by
 unfold tr1
 split
 ·rename_i b
  cases b with
  | m B k=>simp [V.tr,frz1]
  | p n =>
   simp only [V.tr,frz1]
   cases hg:getB h.bs n with
   | none=>rfl
   | some o=>cases o with
    | rows s p es=>cases p <;> rfl
    | mp es =>
     simp only
     unfold fmpV
     rw [show (es.all fun kv=>kv.1.closed&&kv.2.closed)=true from hm n es hg]
     rfl
    | lp q=>rfl
    | it x n seen=>rfl
 ·rfl
theorem tr2_eq {h:Hp} (hm : ∀ n es,getB h.bs n=some (.mp es)→es.all closedE=true) (v:V):tr2 h v=v.tr (frz2 h):=by
 unfold tr2
 split
 ·rename_i b i off
  cases b with
  | m B k=>rfl
  | p n =>
   simp only
   split
   ·rename_i s es hg
    simp only [V.tr,frz2,hg]
    congr 2
    refine List.map_congr_left fun row _=>?_
    rw [trL_mapV]
    exact List.map_congr_left fun v _=>tr1_eq hm v
   ·rfl
 ·rfl
def forceO1 (o:O) (k:O→Prop):Prop:=match o with
 | .rows s true es=>k (.rows s true es)
 | .rows s false es=>k (.rows s false es)
 | .mp es=>k (.mp es)
 | .lp q=>k (.lp q)
 | .it x n l=>k (.it x n l)
def forceBs1:List (Nat×O)→(List (Nat×O)→Prop)→Prop
 | [],k=>k []
 | (a,o)::r,k=>forceN a fun a=>forceO1 o fun o=>forceBs1 r fun r=>k ((a,o)::r)
def forceH1 (h:Hp) (k:Hp→Prop):Prop:=match h with
 | ⟨bs,n,fs⟩=>forceBs1 bs fun bs=>forceN n fun n=>k ⟨bs,n,fs⟩
def forceAd (v:V) (k:V→Prop):Prop:=match v with
 | .adr cs off=>forceRow cs fun cs=>k (.adr cs off)
 | v=>forceArg v k
def forceAds:List V→(List V→Prop)→Prop
 | [],k=>k []
 | v::r,k=>forceAd v fun v=>forceAds r fun r=>k (v::r)
theorem forceO1_eq (o:O) (k:O→Prop):forceO1 o k=k o:=by
 cases o with
 | rows s p es=>cases p <;> rfl
 | mp es=>rfl
 | lp q=>rfl
 | it x n l=>rfl
theorem forceBs1_eq : ∀ (l:List (Nat×O)) (k:List (Nat×O)→Prop),forceBs1 l k=k l
 | [],k=>rfl
 | (a,o)::r,k=>by rw [forceBs1,forceN_eq,forceO1_eq,forceBs1_eq]
theorem forceH1_eq (h:Hp) (k:Hp→Prop):forceH1 h k=k h:=by
 obtain ⟨bs,n,fs⟩:=h
 show forceBs1 bs _=_
 rw [forceBs1_eq,forceN_eq]
theorem forceAd_eq (v:V) (k:V→Prop):forceAd v k=k v:=by
 cases v with
 | adr cs off=>show forceRow cs _=_; rw [forceRow_eq]
 | _=>unfold forceAd; exact forceArg_eq _ _
theorem forceAds_eq : ∀ (l:List V) (k:List V→Prop),forceAds l k=k l
 | [],k=>rfl
 | v::r,k=>by rw [forceAds,forceAd_eq,forceAds_eq]
def callsD (P:Program) (G:Nat→Option (List V)) (mode:FuncId→Nat) (D:FuncId→List TypeDesc) (post:FuncId→List V→Hp→Us→Hp) (rt:FuncId→List V→Us→V→(V→Prop)→Prop):Calling where
 kn:=(callsG P G mode post rt).kn
 mode:=mode
 fz:=(callsG P G mode post rt).fz
 cb:=(callsG P G mode post rt).cb
 c0:=(callsG P G mode post rt).c0
 c:=fun f args h k=>match mode f with
  | 5=>forceH1 h fun h=>mapsK h.bs <| forceAds (args.map (tr2 h)) fun args=>K0G P G f args fun v=>openD (D f) v fun v=>k v h
  | _=>(callsG P G mode post rt).c f args h k
 t:=fun f args h b=>match mode f with
  | 5=>false
  | _=>(callsG P G mode post rt).t f args h b
 strict:=(callsG P G mode post rt).strict
 base:=0
 glob:=G
 y:=(callsG P G mode post rt).y
 ty:=(callsG P G mode post rt).ty
theorem callsD_ok {P:Program} {G:Nat→Option (List V)} {mode:FuncId→Nat} {D:FuncId→List TypeDesc} {post:FuncId→List V→Hp→Us→Hp} {rt:FuncId→List V→Us→V→(V→Prop)→Prop} (hrt : ∀ f args us v k,rt f args us v k → ∃ v', k v' ∧ ∀ {F:Nat→Prop} {w:World} {ν:Nu} {x:Value},rep F w ν v x→rep F w ν v' x):(callsD P G mode D post rt).ok P:=by
 have hG:=callsG_ok (P:=P) (G:=G) (mode:=mode) (post:=post) hrt
 refine ⟨hG.kn,hG.cf,hG.cb,hG.ct,hG.mono,hG.c0,?_,hG.y⟩
 intro f args h R hc
 by_cases hm:mode f=5
 ·simp only [callsD,hm,forceH1_eq,forceAds_eq] at hc ⊢
  obtain ⟨hc,hmp⟩:=mapsK_iff hc
  rw [show args.map (tr2 h)=trL (frz2 h) args by rw [trL_mapV]; exact List.map_congr_left fun v _=>tr2_eq hmp v] at hc
  exact K_of_K0d hc
 ·have e1:(callsD P G mode D post rt).c f args h R=(callsG P G mode post rt).c f args h R:=by
   simp only [callsD]
  have e2:(callsD P G mode D post rt).t f args h=(callsG P G mode post rt).t f args h:=by
   funext b
   simp only [callsD]
  rw [e1] at hc
  have:=hG.c f args h R hc
  rw [← e2] at this
  exact this
noncomputable def cfgD (P:Program) (glob:Nat→Option (List V)) (mode:FuncId→Nat) (D:FuncId→List TypeDesc) (enter:FuncId→Bool) (kps:FuncId→Nat→Option (List Tmp)):Cfg where
 C0:=callsD P glob mode D (fun _ _ h _=>h) fun f args us v k=>k v
 enter:=enter
 clean:=fun _=>true
 kps:=kps
theorem cfgD_ok {P:Program} {glob:Nat→Option (List V)} {mode:FuncId→Nat} {D:FuncId→List TypeDesc} {enter:FuncId→Bool} {kps:FuncId→Nat→Option (List Tmp)}:(cfgD P glob mode D enter kps).ok P :=
 ⟨callsD_ok (fun f args us v k h=>⟨v,h,fun hr=>hr⟩),knowsY_none⟩
end Go.Proofs.YtkkgicjioajimaaDoor.Clean
