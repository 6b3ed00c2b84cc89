/- A part of the proof. -/
import Derived.Test.YtmddjopahcbefaaProg
import Derived.Test.YtmddjopahcbefaaXW6G1
import Derived.Test.YtmddjopahcbefaaXW6G7
import Derived.Test.YtmddjopahcbefaaXW6G8
namespace Go.Proofs.Ytmddjopahcbefaa.Clean
noncomputable def WY0 (P:Program) (cfg:Cfg) (fuel:Nat) (f:FuncId) (fn:Func) (args:List V) (R:V→Prop):Prop :=
 match fn.body with
 | some c=>guardB (Nat.ble args.length fn.ntmps&&Nat.ble args.length 1000) (WY P cfg fuel ⟨⟨0,[]⟩,0,none,fn.ntmps,f,0⟩ c (QendX P fn fun v h=>R (frzW h v)) ⟨start args,⟨[],0,[]⟩⟩)
 | none=>False
theorem K0_of_WY0 {P:Program} (hm:P.follows .mixedOrders=true) {cfg:Cfg} (hcf:cfg.ok P) (fuel:Nat) {f:FuncId} {fn:Func} (hf:P.funcs[f]? = some fn) {args:List V} {R:V→Prop} (h:WY0 P cfg fuel f fn args R):K0G P cfg.glob f args R:=by
 unfold WY0 at h
 split at h
 ·rename_i c hc
  rw [guardB_iff] at h
  exact K0_of_WY hm hcf fuel hf hc h.1 h.2
 ·exact h.elim
theorem La.of {nb:Nat} {slots:List Tmp} {B:Post→St→Prop} {Q:Post} {st:St} {σ:Type} (sh:σ→St) (I:σ→Prop) (μ:σ→Nat) (s0:σ) (h0:st=sh s0) (hI:I s0)
  (round : ∀ s,I s → ∀ J:St→Prop,(∀ s', I s' → μ s' < μ s→J (sh s'))→B (Qla nb slots J Q) (sh s)):La nb slots B Q st:=by
 refine ⟨fun J hJ=>?_⟩
 subst h0
 have key : ∀ n s,μ s<n→I s→J (sh s):=by
  intro n
  induction n with
  | zero=>intro s h; omega
  | succ n ih =>
   intro s hs hI
   exact hJ _ (round s hI J fun s' hI' hlt=>ih s' (by omega) hI')
 exact key _ s0 (Nat.lt_succ_self _) hI
def inN:List Nat→Nat→Bool
 | [],_=>false
 | a::r,x=>Nat.beq a x || inN r x
def slotsOf:List (Nat×Nat×List Tmp)→FuncId→Nat→Option (List Tmp)
 | [],_,_=>none
 | (f,c,l)::r,g,d=>bif Nat.beq f g&&Nat.beq c d then some l else slotsOf r g d
abbrev Us:=List (List (List V))
def back1:List (Id×Nat)→Nat→Tr
 | [],_ => .drop
 | (a,b)::r,i=>bif b.beq i then .ren a else back1 r i
def backT (bs:List (Id×Nat)) (n m:Nat):Id→Tr
 | .p i=>bif Nat.blt i n then back1 bs i else .ren (.p (m+(i - n)))
 | .m _ _ => .drop
noncomputable def backO (τ:Id→Tr):O→O
 | .rows s true es => .rows s true es
 | .rows s false es => .rows s false (es.map (trL τ))
 | .mp es => .mp (es.map fun kv=>(kv.1.tr τ,kv.2.tr τ))
 | .lp q => .lp (q.mapV (V.tr τ))
 | .it x n seen => .it (x.tr τ) n seen
noncomputable def backBs (τ:Id→Tr):List (Nat×O)→List (Nat×O)
 | []=>[]
 | (i,o)::r=>match τ (.p i) with
  | .ren (.p b)=>(b,backO τ o)::backBs τ r
  | _=>backBs τ r
def pureOf:Option O→Option (List (List V))
 | some (.rows _ true es)=>some es
 | _=>none
def mergeFs (h1:Hp):List (Id×Nat)→List (Nat×Fam)→List (Nat×Fam)
 | [],fs=>fs
 | (.m B k,i)::r,fs=>setF (mergeFs h1 r fs) B k (pureOf (getB h1.bs i))
 | (.p _,_)::r,fs=>mergeFs h1 r fs
def mfit (h:Hp) (h1:Hp) (bs:List (Id×Nat)):Bool:=h1.fs.isEmpty&&bs.all fun p=>match p.1 with
 | .p _=>true
 | .m B _=>match getF h.fs B with
  | some f=>match getB h1.bs p.2 with
   | some (.rows s true _)=>s.beq f.s
   | some _=>false
   | none=>true
  | none=>false
noncomputable def mergeH (h:Hp) (kp:Keep) (h1:Hp):Hp:=⟨backBs (backT kp.blocks kp.nxt h.nxt) h1.bs++(delAll h (kp.blocks.map (·.1))).bs,h.nxt+(h1.nxt - kp.nxt),mergeFs h1 kp.blocks h.fs⟩
noncomputable def lentH (h:Hp) (kp:Keep):Hp:=⟨keepBs (renOf kp.blocks) [] h kp.blocks,kp.nxt,[]⟩
def bsOK (h:Hp):Bool:=h.bs.all fun p=>Nat.blt p.1 h.nxt
def typedR (P:Program) (t:Option TypeId) (v:V) (k:V→Prop):Prop:=match t with | some t=>typedT P false t v k | none=>k v
set_option linter.unusedSimpArgs false
set_option linter.unusedVariables false
theorem renOf_mem : ∀ {bs:List (Id×Nat)} {a:Id} {i:Nat},nodupI (bs.map (·.1))=true→(a,i)∈bs→renOf bs a = .ren (.p i)
 | [],a,i,_,h=>by simp at h
 | (c,j)::r,a,i,hn,h=>by
  simp only [renOf,Id.cond_beq]
  by_cases hc:c=a
  ·subst hc
   rw [if_pos rfl]
   have:=nodupI_inj (f:=fun p:Id×Nat=>p.1) hn h (List.mem_cons_self) rfl
   simp at this
   rw [this]
  ·rw [if_neg hc]
   refine renOf_mem ?_ ((List.mem_cons.1 h).resolve_left (fun he=>hc (by simp at he; exact he.1.symm)))
   simp only [List.map_cons,nodupI,Bool.and_eq_true] at hn
   exact hn.2
theorem renOf_none {bs:List (Id×Nat)} {a:Id} (h : ∀ i,(a,i) ∉ bs):renOf bs a = .drop:=by
 rcases renOf_cases bs a with h' | ⟨i,_,hm⟩
 ·exact h'
 ·exact (h i hm).elim
theorem back1_mem : ∀ {bs:List (Id×Nat)} {a:Id} {i:Nat},nodupB (bs.map (·.2))=true→(a,i)∈bs→back1 bs i = .ren a
 | [],a,i,_,h=>by simp at h
 | (c,j)::r,a,i,hn,h=>by
  simp only [back1,cond_beq]
  by_cases hc:j=i
  ·subst hc
   rw [if_pos rfl]
   have:=nodupB_inj (f:=fun p:Id×Nat=>p.2) hn h (List.mem_cons_self) rfl
   simp at this
   rw [this]
  ·rw [if_neg hc]
   refine back1_mem ?_ ((List.mem_cons.1 h).resolve_left (fun he=>hc (by simp at he; exact he.2.symm)))
   simp only [List.map_cons,nodupB,Bool.and_eq_true] at hn
   exact hn.2
theorem back1_cases : ∀ (bs:List (Id×Nat)) (i:Nat),back1 bs i = .drop ∨ ∃ a,back1 bs i = .ren a∧(a,i)∈bs
 | [],i => .inl rfl
 | (c,j)::r,i=>by
  simp only [back1,cond_beq]
  by_cases hc:j=i
  ·subst hc; rw [if_pos rfl]; exact .inr ⟨c,rfl,by simp⟩
  ·rw [if_neg hc]
   rcases back1_cases r i with h | ⟨a,h1,h2⟩
   ·exact .inl h
   ·exact .inr ⟨a,h1,by simp [h2]⟩
theorem backBs_get {τ:Id→Tr} {i b:Nat} (hi:τ (.p i) = .ren (.p b)) (hinj : ∀ j,τ (.p j) = .ren (.p b)→j=i) : ∀ (l:List (Nat×O)),getB (backBs τ l) b=(getB l i).map (backO τ)
 | []=>rfl
 | (k,o)::r=>by
  have ih:=backBs_get hi hinj r
  rw [getB_cons]
  by_cases hk:k=i
  ·subst hk
   simp [backBs,hi,getB_cons]
  ·rw [if_neg hk]
   simp only [backBs]
   split
   ·rename_i b' hb'
    rw [getB_cons,if_neg (fun he:b' = b=>hk (hinj k (by rw [← he]; exact hb'))),ih]
   ·exact ih
theorem backBs_none {τ:Id→Tr} {b:Nat} (h : ∀ j,τ (.p j) ≠ .ren (.p b)) : ∀ (l:List (Nat×O)),getB (backBs τ l) b=none
 | []=>rfl
 | (k,o)::r=>by
  have ih:=backBs_none h r
  simp only [backBs]
  split
  ·rename_i b' hb'
   rw [getB_cons,if_neg (fun he:b' = b=>h k (by rw [← he]; exact hb')),ih]
  ·exact ih
theorem getB_memM : ∀ {l:List (Nat×O)} {b:Nat} {o:O},getB l b=some o→(b,o)∈l
 | [],b,o,h=>by simp [getB] at h
 | (k,o')::r,b,o,h=>by
  rw [getB_cons] at h
  by_cases hk:k=b
  ·rw [if_pos hk] at h; simp at h; subst hk; subst h; simp
  ·rw [if_neg hk] at h; exact List.mem_cons_of_mem _ (getB_memM h)
theorem get_delAll : ∀ (l:List Id) (h:Hp) (b:Id),(delAll h l).get b=if b∈l then none else h.get b
 | [],h,b=>by simp [delAll]
 | c::r,h,b=>by
  simp only [delAll]
  rw [get_delAll r,Hp.get_del]
  by_cases hr:b∈r
  ·simp [hr]
  ·by_cases hc:b=c
   ·simp [hc]
   ·simp [hr,hc]
def getM (fs:List (Nat×Fam)) (B k:Nat):Option (Nat×List (List V)):=match getF fs B with | some f=>(memb f.ms k).map fun es=>(f.s,es) | none=>none
theorem get_getM {h:Hp} {B k:Nat}:h.get (.m B k)=(getM h.fs B k).map fun p => .rows p.1 true p.2:=by
 simp only [Hp.get,getM]
 cases getF h.fs B with
 | none=>rfl
 | some f=>simp only; cases memb f.ms k <;> rfl
theorem getM_setF {fs:List (Nat×Fam)} {B k:Nat} {x:Option (List (List V))} {B' k' : Nat} (hk:k<famLen fs B):getM (setF fs B k x) B' k' = if B' = B∧k' = k then (match getF fs B with | some f=>x.map fun es=>(f.s,es) | none=>none) else getM fs B' k' := by
 unfold getM
 rw [getF_setF]
 by_cases hB:B' = B
 ·subst hB
  rw [if_pos rfl]
  cases hf:getF fs B' with
  | none=>simp
  | some f =>
   have hk:k<f.ms.length:=by simpa [famLen,hf] using hk
   simp only [Option.map_some,memb_set _ _ _ _ hk,true_and]
   by_cases hkk:k' = k
   ·simp [hkk]
   ·simp [hkk]
 ·simp [hB]
theorem mergeFs_len {h1:Hp} : ∀ (bs:List (Id×Nat)) (fs:List (Nat×Fam)) (B:Nat),famLen (mergeFs h1 bs fs) B=famLen fs B
 | [],fs,B=>rfl
 | (.m _ _,i)::r,fs,B=>by simp only [mergeFs]; rw [setF_cnt]; exact mergeFs_len r fs B
 | (.p _,_)::r,fs,B=>by simp only [mergeFs]; exact mergeFs_len r fs B
theorem mergeFs_s {h1:Hp} : ∀ (bs:List (Id×Nat)) (fs:List (Nat×Fam)) (B:Nat),(getF (mergeFs h1 bs fs) B).map (·.s)=(getF fs B).map (·.s)
 | [],fs,B=>rfl
 | (.m B0 k,i)::r,fs,B=>by
  simp only [mergeFs]
  rw [getF_setF,← mergeFs_s r fs B]
  by_cases hB:B=B0
  ·subst hB
   rw [if_pos rfl]
   cases getF (mergeFs h1 r fs) B <;> rfl
  ·rw [if_neg hB]
 | (.p _,_)::r,fs,B=>by simp only [mergeFs]; exact mergeFs_s r fs B
theorem mergeFs_get {h1:Hp} {fs:List (Nat×Fam)} : ∀ {bs:List (Id×Nat)},nodupI (bs.map (·.1))=true→(∀ B k i,(Id.m B k,i)∈bs→k<famLen fs B) → ∀ (B k:Nat),
  (∀ i,(Id.m B k,i)∈bs→getM (mergeFs h1 bs fs) B k=match getF fs B with | some f=>(pureOf (getB h1.bs i)).map fun es=>(f.s,es) | none=>none) ∧
  ((∀ i,(Id.m B k,i) ∉ bs)→getM (mergeFs h1 bs fs) B k=getM fs B k)
 | [],_,_,B,k=>⟨fun i hm=>by simp at hm,fun _=>rfl⟩
 | (.p a,j)::r,hn,hl,B,k=>by
  simp only [List.map_cons,nodupI,Bool.and_eq_true] at hn
  obtain ⟨ih1,ih2⟩:=mergeFs_get (h1:=h1) (fs:=fs) (bs:=r) hn.2 (fun B k i hm=>hl B k i (by simp [hm])) B k
  simp only [mergeFs]
  exact ⟨fun i hm=>ih1 i (by simpa using hm),fun hn=>ih2 fun i hm=>hn i (by simp [hm])⟩
 | (.m B0 k0,j)::r,hn,hl,B,k=>by
  have hn0:=hn
  simp only [List.map_cons,nodupI,Bool.and_eq_true,Bool.not_eq_true', List.any_eq_false,List.mem_map,forall_exists_index,and_imp,forall_apply_eq_imp_iff₂] at hn
  obtain ⟨ih1,ih2⟩:=mergeFs_get (h1:=h1) (fs:=fs) (bs:=r) hn.2 (fun B k i hm=>hl B k i (by simp [hm])) B k
  have hlen:k0<famLen (mergeFs h1 r fs) B0:=by rw [mergeFs_len]; exact hl B0 k0 j (by simp)
  simp only [mergeFs]
  rw [getM_setF hlen]
  by_cases he:B=B0∧k=k0
  ·obtain ⟨rfl,rfl⟩:=he
   rw [if_pos ⟨rfl,rfl⟩]
   refine ⟨fun i hm=>?_,fun hno=>(hno j (by simp)).elim⟩
   have hij:i=j:=by
    simp only [List.mem_cons,Prod.mk.injEq,true_and] at hm
    rcases hm with hm | hm
    ·exact hm
    ·have:=hn.1 _ hm
     simp at this
   subst hij
   have hs:=mergeFs_s (h1:=h1) r fs B
   cases hg:getF fs B with
   | none =>
    rw [hg] at hs
    cases hg' : getF (mergeFs h1 r fs) B with
    | none=>rfl
    | some f=>rw [hg'] at hs; simp at hs
   | some f =>
    rw [hg] at hs
    cases hg' : getF (mergeFs h1 r fs) B with
    | none=>rw [hg'] at hs; simp at hs
    | some f' => rw [hg'] at hs; simp at hs; simp only [hs]
  ·rw [if_neg he]
   refine ⟨fun i hm=>ih1 i ?_,fun hno=>ih2 fun i hm=>hno i (by simp [hm])⟩
   simp only [List.mem_cons,Prod.mk.injEq,Id.m.injEq] at hm
   exact hm.resolve_left fun h=>he h.1
def mergeNu (ν ν1:Nu) (bs:List (Id×Nat)) (n:Nat) (hle:n≤ν1.nxt) (hin : ∀ p∈bs,p.1.lt ν.nxt ν.cnt) (hz : ∀ B,ν1.cnt B=0):Nu where
 at_ b:=match b with
  | .p a=>if a<ν.nxt then (match renOf bs (.p a) with | .ren i=>ν1.at_ i | _=>ν.at_ (.p a)) else ν1.at_ (.p (n+(a - ν.nxt)))
  | .m B k=>match renOf bs (.m B k) with | .ren i=>ν1.at_ i | _=>ν.at_ (.m B k)
 nxt:=ν.nxt+(ν1.nxt - n)
 cnt:=ν.cnt
 lt b x h:=by
  cases b with
  | p a =>
   show a<ν.nxt+(ν1.nxt - n)
   by_cases hb:a<ν.nxt
   ·omega
   ·simp only [hb,if_false] at h
    have:n+(a - ν.nxt)<ν1.nxt:=ν1.lt _ _ h
    omega
  | m B k =>
   show k<ν.cnt B
   simp only at h
   rcases renOf_cases bs (.m B k) with h0 | ⟨i,h0,hm⟩
   ·rw [h0] at h
    exact ν.lt _ _ h
   ·exact hin _ hm
 ph b:=match b with
  | .p a=>if a<ν.nxt then (match renOf bs (.p a) with | .ren i=>ν1.ph i | _=>ν.ph (.p a)) else ν1.ph (.p (n+(a - ν.nxt)))
  | .m B k=>match renOf bs (.m B k) with | .ren i=>ν1.ph i | _=>ν.ph (.m B k)
 phx b x h:=by
  cases b with
  | p a =>
   simp only at h ⊢
   by_cases hb:a<ν.nxt
   ·rw [if_pos hb] at h ⊢
    split at h
    ·exact ν1.phx _ _ h
    ·exact ν.phx _ _ h
   ·rw [if_neg hb] at h ⊢; exact ν1.phx _ _ h
  | m B k =>
   simp only at h ⊢
   split at h
   ·exact ν1.phx _ _ h
   ·exact ν.phx _ _ h
theorem obl_back {F:Nat→Prop} {w:World} {ν1 ν2:Nu} {τ:Id→Tr} (tr:TrOK F F w ν1 ν2 τ) {r s n:Nat} {o:O} (ho:Obl F w ν1 r s n o):Obl F w ν2 r s n (backO τ o):=by
 cases o with
 | lp q =>
  obtain ⟨rec,k1,k2⟩:=ho
  exact ⟨rec,k1,k2.map (rep_tr (fun _ h=>h) tr)⟩
 | it x m seen =>
  obtain ⟨mr,k1,k2⟩:=ho
  exact ⟨mr,k1,rep_tr (fun _ h=>h) tr _ _ k2⟩
 | mp es =>
  obtain ⟨ents,k1,k2,k3⟩:=ho
  refine ⟨ents,by rw [List.length_map]; exact k1,by simp [k2],fun i kv hi=>?_⟩
  rw [List.getElem?_map,Option.map_eq_some_iff] at hi
  obtain ⟨kv0,hi0,rfl⟩:=hi
  obtain ⟨e,e1,e2,e3,e4⟩:=k3 i kv0 hi0
  exact ⟨e,e1,e2,rep_tr (fun _ h=>h) tr _ _ e3,rep_tr (fun _ h=>h) tr _ _ e4⟩
 | rows s' p es =>
  obtain ⟨rfl,z2,c,el,z3,z4,z5⟩:=ho
  cases p with
  | true=>exact ⟨rfl,z2,c,el,z3,z4,z5⟩
  | false =>
   refine ⟨rfl,by simpa using z2,c,el,z3,z4,?_⟩
   rw [rowsC_iff] at z5 ⊢
   intro j row hrow
   rw [List.getElem?_map,Option.map_eq_some_iff] at hrow
   obtain ⟨row0,hrow0,rfl⟩:=hrow
   obtain ⟨k1,k2⟩:=z5 j row0 hrow0
   refine ⟨by rw [trL_length]; exact k1,fun l u hu=>?_⟩
   rw [trL_get,Option.map_eq_some_iff] at hu
   obtain ⟨v0,hv0,rfl⟩:=hu
   obtain ⟨y,k3,k4,k5⟩:=k2 l v0 hv0
   exact ⟨y,k3,k4,rep_tr (fun _ h=>h) tr v0 y k5⟩
theorem K_frame {P:Program} {G:Nat→Option (List V)} {f:FuncId} {args:List V} {h:Hp} {kp:Keep} {k:V→Hp→Prop} (hkp:kp=lentOf h args) (hok:kp.ok=true) (hbs:bsOK h=true)
  (hb:K P G f (trL (renOf kp.blocks) args) (lentH h kp) (fun _=>true) (fun v h1=>mfit h h1 kp.blocks=true∧k (v.tr (backT kp.blocks kp.nxt h.nxt)) (mergeH h kp h1))):K P G f args h (fun b=>kp.blocks.any fun p=>p.1.beq b) k:=by
 intro ν F w xs hh hG hl
 have hnils:kp.nils=[]:=by rw [hkp]; rfl
 have hpu:kp.pu=[]:=by rw [hkp]; rfl
 have hfm:kp.fams=[]:=by rw [hkp]; rfl
 obtain ⟨hn1,hn12,hblt,_,_,_⟩:=Keep.ok_iff.1 hok
 have hn2:=nodupB_right hn12
 have hblt : ∀ p∈kp.blocks,p.2<kp.nxt:=fun p hp=>blt_of (hblt p hp)
 obtain ⟨kh,ko⟩:=keep_heap hok hh
 rw [hnils,hpu,hfm,ren_nofams hfm] at kh
 have hl' := repL_tr (fun _ h=>h) (keep_tr hok hh) _ _ hl
 rw [ren_nofams hfm] at hl'
 have hin : ∀ b o,h.get b=some o→b.lt ν.nxt ν.cnt:=fun b o ho=>by
  cases b with
  | p b =>
   have:=List.all_eq_true.1 hbs _ (getB_memM ho)
   show b<ν.nxt
   rw [hh.nxt]; exact blt_of this
  | m B k =>
   obtain ⟨f,es,h1,h2,_⟩:=Hp.get_m ho
   show k<ν.cnt B
   rw [hh.cnt B]
   simp only [famLen,h1]
   exact memb_lt h2
 refine (hb _ F w xs (by simpa [nilBs,lentH,keepFs] using kh) hG hl').mono fun e w' ⟨x,v,ν1,F1,h1,g1,⟨gfit0,g2⟩,g4,g5,g6,_⟩=>?_
 have hnx:(kpNu kp hok h ν).nxt=kp.nxt:=rfl
 have hz0 : ∀ B,(kpNu kp hok h ν).cnt B=0:=fun B=>by
  show kp.cnt h B=0
  simp [Keep.cnt,hfm]
 have gfit1:=(Bool.and_eq_true _ _ ▸ gfit0:h1.fs.isEmpty=true∧_)
 have gfit:=gfit1.2
 have hz : ∀ B,ν1.cnt B=0:=cnt_none g4 gfit1.1
 have hle:kp.nxt≤ν1.nxt:=g6.nxt
 have hp1 : ∀ {b:Id} {y},ν1.at_ b=some y → ∃ i,b = .p i:=fun {b y} hy=>by
  have:=ν1.lt _ _ hy
  cases b with
  | p i=>exact ⟨i,rfl⟩
  | m B k =>
   have:k<ν1.cnt B:=this
   rw [hz B] at this
   omega
 have hhas : ∀ a i,(a,i)∈kp.blocks→h.has a=true:=fun a i hm=>by
  rw [hkp] at hm
  simp only [lentOf] at hm
  have:=(List.mem_zipIdx hm)
  have hm' : a∈(reach 200 h (refsL args) []).filter fun b=>h.has b:=by
   rw [this.2.2]; exact List.getElem_mem _
  exact (List.mem_filter.1 hm').2
 have hfst : ∀ a i,(a,i)∈kp.blocks→a.lt ν.nxt ν.cnt:=fun a i hm=>by
  obtain ⟨o,ho⟩:=has_iff.1 (hhas a i hm)
  exact hin a o ho
 let σ:=backT kp.blocks kp.nxt h.nxt
 have σlo : ∀ i a,(a,i)∈kp.blocks→σ (.p i) = .ren a:=fun i a hm=>by
  have:Nat.blt i kp.nxt=true:=by have:=hblt _ hm; exact Nat.ble_eq_true_of_le this
  simp only [σ,backT,this,cond_true]
  exact back1_mem hn2 hm
 have σhi : ∀ i,kp.nxt≤i→σ (.p i) = .ren (.p (ν.nxt+(i - kp.nxt))):=fun i hi=>by
  have:Nat.blt i kp.nxt=false:=by
   cases hq:Nat.blt i kp.nxt with
   | false=>rfl
   | true=>have:=blt_of hq; omega
  simp only [σ,backT,this,cond_false]
  rw [← hh.nxt]
 have σcase : ∀ j b,σ j = .ren b → ∃ i,j = .p i∧((i<kp.nxt∧(b,i)∈kp.blocks∧b.lt ν.nxt ν.cnt)∨(kp.nxt≤i∧b = .p (ν.nxt+(i - kp.nxt)))):=fun j b hs=>by
  cases j with
  | m B k=>simp only [σ,backT] at hs; cases hs
  | p i =>
  refine ⟨i,rfl,?_⟩
  by_cases hi:i<kp.nxt
  ·left
   have:Nat.blt i kp.nxt=true:=Nat.ble_eq_true_of_le hi
   simp only [σ,backT,this,cond_true] at hs
   rcases back1_cases kp.blocks i with h0 | ⟨a,h0,hm⟩
   ·rw [h0] at hs; cases hs
   ·rw [h0] at hs; cases hs
    exact ⟨hi,hm,hfst _ _ hm⟩
  ·right
   rw [σhi i (by omega)] at hs
   cases hs
   exact ⟨by omega,rfl⟩
 have nlt : ∀ {n:Nat},ν.nxt≤n → ¬ (Id.p n).lt ν.nxt ν.cnt:=fun {n} hn hl=>by
  have:n<ν.nxt:=hl
  omega
 have σinj : ∀ i j b,σ i = .ren b→σ j = .ren b→j=i:=fun i j b hi hj=>by
  obtain ⟨i0,rfl,ci⟩:=σcase i b hi
  obtain ⟨j0,rfl,cj⟩:=σcase j b hj
  rcases ci with ⟨_,m1,l1⟩ | ⟨l1,e1⟩ <;> rcases cj with ⟨_,m2,l2⟩ | ⟨l2,e2⟩
  ·have:=nodupI_inj (f:=fun p:Id×Nat=>p.1) hn1 m2 m1 rfl
   simpa using this
  ·rw [e2] at l1; exact (nlt (by omega) l1).elim
  ·rw [e1] at l2; exact (nlt (by omega) l2).elim
  ·rw [e1] at e2; simp at e2; rw [show j0=i0 by omega]
 let ν2:=mergeNu ν ν1 kp.blocks kp.nxt hle (fun p hp=>hfst p.1 p.2 hp) hz
 have at_lent : ∀ a i,(a,i)∈kp.blocks→ν2.at_ a=ν1.at_ (.p i)∧ν2.ph a=ν1.ph (.p i):=fun a i hm=>by
  have hlt:=hfst a i hm
  cases a with
  | p a =>
   have hlt:a<ν.nxt:=hlt
   simp only [ν2,mergeNu,if_pos hlt,renOf_mem hn1 hm,and_self]
  | m B k=>simp only [ν2,mergeNu,renOf_mem hn1 hm,and_self]
 have at_new : ∀ i,kp.nxt≤i→ν2.at_ (.p (ν.nxt+(i - kp.nxt)))=ν1.at_ (.p i)∧ν2.ph (.p (ν.nxt+(i - kp.nxt)))=ν1.ph (.p i):=fun i hi=>by
  have : ¬ ν.nxt+(i - kp.nxt)<ν.nxt:=by omega
  simp only [ν2,mergeNu,if_neg this]
  rw [show kp.nxt+(ν.nxt+(i - kp.nxt) - ν.nxt)=i by omega]
  exact ⟨rfl,rfl⟩
 have at_σ : ∀ j b,σ j = .ren b→ν2.at_ b=ν1.at_ j∧ν2.ph b=ν1.ph j:=fun j b hs=>by
  obtain ⟨i,rfl,ci⟩:=σcase j b hs
  rcases ci with ⟨_,hm,_⟩ | ⟨hi,rfl⟩
  ·exact at_lent b i hm
  ·exact at_new i hi
 have at_old : ∀ b:Id,b.lt ν.nxt ν.cnt→(∀ i,(b,i) ∉ kp.blocks)→ν2.at_ b=ν.at_ b∧ν2.ph b=ν.ph b:=fun b hb hn=>by
  cases b with
  | p a =>
   have hb:a<ν.nxt:=hb
   simp only [ν2,mergeNu,if_pos hb,renOf_none hn,and_self]
  | m B k=>simp only [ν2,mergeNu,renOf_none hn,and_self]
 have src : ∀ b y,ν2.at_ b=some y→(∃ i,σ (.p i) = .ren b∧ν1.at_ (.p i)=some y)∨(b.lt ν.nxt ν.cnt∧(∀ i,(b,i) ∉ kp.blocks)∧ν.at_ b=some y):=fun b y hy=>by
  have low:b.lt ν.nxt ν.cnt→(∃ i,σ (.p i) = .ren b∧ν1.at_ (.p i)=some y)∨(b.lt ν.nxt ν.cnt∧(∀ i,(b,i) ∉ kp.blocks)∧ν.at_ b=some y):=fun hb=>by
   rcases renOf_cases kp.blocks b with h0 | ⟨i,h0,hm⟩
   ·right
    have hn : ∀ i,(b,i) ∉ kp.blocks:=fun i hm=>by rw [renOf_mem hn1 hm] at h0; cases h0
    exact ⟨hb,hn,by rw [← (at_old b hb hn).1]; exact hy⟩
   ·exact .inl ⟨i,σlo i b hm,by rw [← (at_lent b i hm).1]; exact hy⟩
  cases b with
  | m B k=>exact low (ν2.lt _ _ hy)
  | p a =>
   by_cases hb:a<ν.nxt
   ·exact low hb
   ·left
    have hlt:a<ν2.nxt:=ν2.lt _ _ hy
    have e:ν.nxt+(kp.nxt+(a - ν.nxt) - kp.nxt)=a:=by omega
    refine ⟨kp.nxt+(a - ν.nxt),by rw [σhi _ (by omega),e],?_⟩
    have:=(at_new (kp.nxt+(a - ν.nxt)) (by omega)).1
    rw [e] at this
    rw [← this]; exact hy
 have own0 : ∀ r,(kpNu kp hok h ν).own r → ∃ a i s n,(a,i)∈kp.blocks∧ν.at_ a=some (r,s,n):=fun r ⟨i,s,n,hat⟩=>by
  rw [kpNu_at] at hat
  obtain ⟨_,a,hm,ha⟩:=hat
  cases i with
  | p i=>exact ⟨a,i,s,n,src_p hm,ha⟩
  | m B k =>
   obtain ⟨f,hf,_⟩:=src_m hm
   simp [hfm] at hf
 have notown : ∀ b r s n,ν.at_ b=some (r,s,n)→(∀ i,(b,i) ∉ kp.blocks) → ¬ (kpNu kp hok h ν).own r:=fun b r s n hat hn ho=>by
  obtain ⟨a,i,s', n', hm,ha⟩:=own0 r ho
  exact hn i (hh.inj a b r s' n' s n ha hat ▸ hm)
 have own_lt : ∀ r,ν.own r→r<w.heap.size:=fun r ho=>hh.own_lt ho
 have same : ∀ b r s n,ν.at_ b=some (r,s,n)→(∀ i,(b,i) ∉ kp.blocks)→w'.heap[r]? = w.heap[r]? := fun b r s n hat hn=>g6.old r (own_lt r ⟨b,s,n,hat⟩) (notown b r s n hat hn)
 have klt : ∀ {i:Nat},i<kp.nxt→(Id.p i).lt (kpNu kp hok h ν).nxt (kpNu kp hok h ν).cnt:=fun {i} hi=>hi
 have evo:Evo ν F w ν2 F1 w' := by
  refine ⟨g6.os,g6.tape,g6.output,g6.size,fun r hr ho=>g6.old r hr (fun h0=>ho (ko r h0)),g6.fmono,fun r hr=>(g6.fnew r hr).imp id (fun h=>h.imp (ko r) id),?_,?_,?_,fun _=>Nat.le_refl _,?_,?_,by first | exact Nat.le_refl _ | exact Nat.le_succ _ | assumption | exact e.drawn | exact he.drawn | exact hb.drawn | exact hb.1.drawn | exact h.drawn | exact g6.drawn | exact h2.drawn | exact ed.drawn | exact e1.drawn | exact hk.drawn | (subst_vars; exact Nat.le_refl _) | (simp; done) | omega⟩
  ·rintro r ⟨b,s,n,hat⟩
   rcases src b _ hat with ⟨i,_,h0⟩ | ⟨_,_,h0⟩
   ·exact (g6.onew r ⟨_,s,n,h0⟩).imp (ko r) id
   ·exact .inl ⟨b,s,n,h0⟩
  ·intro b y hb hat
   rcases src b _ hat with ⟨i,hs,h0⟩ | ⟨_,_,h0⟩
   ·obtain ⟨i', he,ci⟩:=σcase _ b hs
    simp at he
    subst he
    rcases ci with ⟨hi,hm,_⟩ | ⟨hi,he⟩
    ·have:=g6.keep _ y (klt hi) h0
     rw [kpNu_iff] at this
     obtain ⟨a,hm', ha⟩:=this
     have:=nodupB_inj (f:=fun p:Id×Nat=>p.2) hn2 hm hm' rfl
     simp at this
     rw [this]; exact ha
    ·rw [he] at hb; exact (nlt (by omega) hb).elim
   ·exact h0
  ·show ν.nxt≤ν.nxt+_; omega
  ·intro b hb hp
   rcases renOf_cases kp.blocks b with h0 | ⟨i,h0,hm⟩
   ·have hn : ∀ i,(b,i) ∉ kp.blocks:=fun i hm=>by rw [renOf_mem hn1 hm] at h0; cases h0
    rw [(at_old b hb hn).2] at hp; exact hp
   ·rw [(at_lent b i hm).2] at hp
    have:=g6.kph _ (klt (hblt _ hm)) hp
    rw [kpNu_ph hok hm] at this; exact this
  ·intro b r s n hat hat2 c el fr hc
   rcases src b _ hat2 with ⟨i,hs,h0⟩ | ⟨_,hn,h0⟩
   ·obtain ⟨i', he,ci⟩:=σcase _ b hs
    simp at he
    subst he
    rcases ci with ⟨hi,hm,_⟩ | ⟨hi,he⟩
    ·exact g6.len _ r s n ((kpNu_iff hok).2 ⟨b,hm,hat⟩) h0 c el fr hc
    ·have:=ν.lt _ _ hat
     rw [he] at this
     exact (nlt (by omega) this).elim
   ·exact ⟨c,by rw [same b r s n hat hn]; exact hc,rfl⟩
 have tr:TrOK F1 F1 w' ν1 ν2 σ:=by
  intro b hb
  cases hs:σ b with
  | drop=>trivial
  | frz s es =>
   exfalso
   cases b with
   | m B k=>simp only [σ,backT] at hs; cases hs
   | p b =>
   by_cases hi:b<kp.nxt
   ·have:Nat.blt b kp.nxt=true:=Nat.ble_eq_true_of_le hi
    simp only [σ,backT,this,cond_true] at hs
    rcases back1_cases kp.blocks b with h0 | ⟨a,h0,hm⟩ <;> rw [h0] at hs <;> cases hs
   ·rw [σhi b (by omega)] at hs; cases hs
  | ren b' =>
   obtain ⟨e1,e2⟩:=at_σ b b' hs
   refine ⟨⟨?_,fun hp=>by rw [e2] at hp; exact hp⟩,fun y hy=>by rw [e1] at hy; exact hy⟩
   obtain ⟨i,rfl,ci⟩:=σcase b b' hs
   rcases ci with ⟨_,_,h0⟩ | ⟨h0,rfl⟩
   ·exact Id.lt_le h0 (show ν.nxt≤ν.nxt+_ by omega)
   ·have hb:i<ν1.nxt:=hb
    show ν.nxt+(i - kp.nxt)<ν.nxt+(ν1.nxt - kp.nxt)
    omega
 have hlm : ∀ B k i,(Id.m B k,i)∈kp.blocks→k<famLen h.fs B:=fun B k i hm=>by
  have:k<ν.cnt B:=hfst _ _ hm
  rwa [hh.cnt B] at this
 have getA : ∀ i b,σ (.p i) = .ren b→(mergeH h kp h1).get b=(h1.get (.p i)).map (backO σ)∨(h1.get (.p i))=none:=fun i b hs=>by
  cases hg:h1.get (.p i) with
  | none=>exact .inr rfl
  | some o =>
   left
   have hg' : getB h1.bs i=some o:=hg
   cases b with
   | p b =>
    have:=backBs_get hs (fun j hj=>by have:=σinj _ _ _ hs hj; simpa using this) h1.bs
    simp only [mergeH,Hp.get,getB_append]
    rw [this,hg']; rfl
   | m B k =>
    obtain ⟨i', he,hs'⟩:=σcase _ _ hs
    simp at he
    subst he
    rcases hs' with ⟨_,hm,_⟩ | ⟨_,he⟩
    ·rw [get_getM]
     show (getM (mergeFs h1 kp.blocks h.fs) B k).map _=_
     rw [(mergeFs_get hn1 hlm B k).1 i hm,hg']
     have hft:=List.all_eq_true.1 gfit _ hm
     simp only at hft
     cases hf:getF h.fs B with
     | none=>rw [hf] at hft; cases hft
     | some f =>
      rw [hf,hg'] at hft
      cases o with
      | mp es=>cases hft
      | lp q=>cases hft
      | it x n seen=>cases hft
      | rows s p es =>
       cases p with
       | false=>cases hft
       | true =>
        simp only at hft
        simp only [pureOf,Option.map_some,backO,← beq_eq hft]
    ·cases he
 have getN : ∀ i b,σ (.p i) = .ren b→h1.get (.p i)=none→(mergeH h kp h1).get b=none:=fun i b hs hg=>by
  have hg' : getB h1.bs i=none:=hg
  cases b with
  | p b =>
   have:=backBs_get hs (fun j hj=>by have:=σinj _ _ _ hs hj; simpa using this) h1.bs
   simp only [mergeH,Hp.get,getB_append]
   rw [this,hg']
   simp only [Option.map_none]
   have hd:=get_delAll (kp.blocks.map (·.1)) h (.p b)
   simp only [Hp.get] at hd
   rw [hd]
   obtain ⟨i', he,hs'⟩:=σcase _ _ hs
   simp at he
   subst he
   rcases hs' with ⟨_,hm,_⟩ | ⟨_,he⟩
   ·rw [if_pos (List.mem_map.2 ⟨_,hm,rfl⟩)]
   ·split
    ·rfl
    ·cases hgb:getB h.bs b with
     | none=>rfl
     | some o =>
      have:=hin (.p b) o hgb
      simp at he
      rw [he] at this
      exact (nlt (by omega) this).elim
  | m B k =>
   obtain ⟨i', he,hs'⟩:=σcase _ _ hs
   simp at he
   subst he
   rcases hs' with ⟨_,hm,_⟩ | ⟨_,he⟩
   ·rw [get_getM]
    show (getM (mergeFs h1 kp.blocks h.fs) B k).map _=_
    rw [(mergeFs_get hn1 hlm B k).1 i hm,hg']
    cases getF h.fs B <;> rfl
   ·cases he
 have getOld : ∀ b:Id,b.lt ν.nxt ν.cnt→(∀ i,(b,i) ∉ kp.blocks)→(mergeH h kp h1).get b=h.get b:=fun b hb hn=>by
  cases b with
  | m B k =>
   rw [get_getM,get_getM]
   show (getM (mergeFs h1 kp.blocks h.fs) B k).map _=_
   rw [(mergeFs_get hn1 hlm B k).2 hn]
  | p b =>
  have:getB (backBs σ h1.bs) b=none:=backBs_none (fun j hj=>by
   obtain ⟨i', he,hs'⟩:=σcase _ _ hj
   rcases hs' with ⟨_,hm,_⟩ | ⟨_,he⟩
   ·exact hn i' hm
   ·simp at he; rw [he] at hb; exact nlt (by omega) hb) _
  simp only [mergeH,Hp.get,getB_append]
  rw [this]
  have:=get_delAll (kp.blocks.map (·.1)) h (.p b)
  simp only [Hp.get] at this
  rw [this,if_neg]
  intro hm
  obtain ⟨⟨a,i⟩,hm', he⟩:=List.mem_map.1 hm
  simp at he
  subst he
  exact hn i hm'
 have heap:HeapOK ν2 F1 (mergeH h kp h1) w' := by
  refine ⟨?_,?_,?_,?_,?_,?_⟩
  ·intro b r s n hat
   rcases src b _ hat with ⟨i,hs,h0⟩ | ⟨hb,hn,h0⟩
   ·obtain ⟨o,z1,z2⟩:=g4.blk _ r s n h0
    refine ⟨backO σ o,?_,obl_back tr z2⟩
    rcases getA i b hs with h | h
    ·rw [h,z1]; rfl
    ·rw [z1] at h; cases h
   ·obtain ⟨o,z1,z2⟩:=hh.blk b r s n h0
    exact ⟨o,by rw [getOld b hb hn]; exact z1,obl_evo hh evo (same b r s n h0 hn) z2⟩
  ·intro b o hb
   by_cases hex : ∃ i,σ (.p i) = .ren b
   ·obtain ⟨i,hs⟩:=hex
    cases hg:h1.get (.p i) with
    | none=>rw [getN i b hs hg] at hb; cases hb
    | some o1 =>
     rcases getA i b hs with h | h
     ·rw [h,hg] at hb
      simp at hb
      subst hb
      obtain ⟨e1,e2⟩:=at_σ _ b hs
      rcases g4.dom _ o1 hg with ⟨y,hy⟩ | ⟨hp,s,p,rfl⟩
      ·exact .inl ⟨y,by rw [e1]; exact hy⟩
      ·refine .inr ⟨by rw [e2]; exact hp,s,p,?_⟩
       cases p <;> rfl
     ·rw [hg] at h; cases h
   ·have hn : ∀ i,(b,i) ∉ kp.blocks:=fun i hm=>hex ⟨i,σlo i b hm⟩
    have hlt:b.lt ν.nxt ν.cnt∧h.get b=some o:=by
     cases b with
     | m B k =>
      rw [get_getM] at hb
      have hb:(getM (mergeFs h1 kp.blocks h.fs) B k).map (fun p=>O.rows p.1 true p.2)=some o:=hb
      rw [(mergeFs_get hn1 hlm B k).2 hn,← get_getM] at hb
      exact ⟨hin _ o hb,hb⟩
     | p b =>
      have h0:getB (backBs σ h1.bs) b=none:=backBs_none (fun j hj=>hex ⟨j,hj⟩) _
      have hb:getB (backBs σ h1.bs++(delAll h (kp.blocks.map (·.1))).bs) b=some o:=hb
      rw [getB_append,h0] at hb
      have hb:(delAll h (kp.blocks.map (·.1))).get (.p b)=some o:=hb
      rw [get_delAll] at hb
      split at hb
      ·cases hb
      ·exact ⟨hin _ o hb,hb⟩
    obtain ⟨e1,e2⟩:=at_old b hlt.1 hn
    rcases hh.dom b o hlt.2 with ⟨y,hy⟩ | ⟨hp,h0⟩
    ·exact .inl ⟨y,by rw [e1]; exact hy⟩
    ·exact .inr ⟨by rw [e2]; exact hp,h0⟩
  ·intro b b' r s n s' n' h0 h0'
   have mix : ∀ i b' s n s' n', ν1.at_ (.p i)=some (r,s,n)→ν.at_ b' = some (r,s', n')→(∀ i,(b', i) ∉ kp.blocks)→False:=fun i b' s n s' n' a1 a2 hn=>by
    rcases g6.onew r ⟨_,s,n,a1⟩ with h2 | h2
    ·exact notown b' r s' n' a2 hn h2
    ·have:=own_lt r ⟨b', s', n', a2⟩; omega
   rcases src b _ h0 with ⟨i,hs,a1⟩ | ⟨_,hn,a1⟩ <;> rcases src b' _ h0' with ⟨i', hs', a2⟩ | ⟨_,hn', a2⟩
   ·have:=g4.inj _ _ r s n s' n' a1 a2
    simp at this
    subst this
    rw [hs] at hs'; cases hs'; rfl
   ·exact (mix i b' s n s' n' a1 a2 hn').elim
   ·exact (mix i' b s' n' s n a2 a1 hn).elim
   ·exact hh.inj b b' r s n s' n' a1 a2
  ·intro r hr
   refine ⟨(g4.frz r hr).1,?_⟩
   rintro ⟨b,s,n,hat⟩
   rcases src b _ hat with ⟨i,hs,a1⟩ | ⟨_,hn,a1⟩
   ·exact (g4.frz r hr).2 ⟨_,s,n,a1⟩
   ·rcases g6.fnew r hr with h2 | h2 | h2
    ·exact (hh.frz r h2).2 ⟨b,s,n,a1⟩
    ·exact notown b r s n a1 hn h2
    ·have:=own_lt r ⟨b,s,n,a1⟩; omega
  ·show ν.nxt+(ν1.nxt - kp.nxt)=h.nxt+(h1.nxt - kp.nxt)
   rw [hh.nxt,g4.nxt]
  ·intro B
   show ν.cnt B=famLen (mergeFs h1 kp.blocks h.fs) B
   rw [mergeFs_len]; exact hh.cnt B
 refine ⟨x,v.tr σ,ν2,F1,mergeH h kp h1,g1,g2,heap,rep_tr (fun _ h=>h) tr v x g5,evo,fun b y hy hb=>?_⟩
 have hn : ∀ i,(b,i) ∉ kp.blocks:=fun i hm=>by
  rw [List.any_eq_false] at hb
  have:=hb _ hm
  simp at this
 obtain ⟨r,s,n⟩:=y
 exact ⟨same b r s n hy hn,by rw [(at_old b (ν.lt _ _ hy) hn).1]; exact hy⟩
def KM (P:Program) (G:Nat→Option (List V)) (f:FuncId) (args:List V) (h0:Hp) (post:Hp→Us→Hp) (R:V→Us→Prop):Prop:=K P G f args h0 (fun _=>true) fun v h1 => ∃ es,h1=post h0 es∧R v es
def callsF (P:Program) (G:Nat→Option (List V)) (kn:FuncId→Option V) (mode:FuncId→Nat) (fz:Tmp→Bool) (base:Nat) (post:FuncId→Hp→Us→Hp) (rt:FuncId→Us→V→(V→Prop)→Prop):Calling :=
 ⟨kn,mode,fz,KB P G,K0G P G,fun f args h k=>match mode f with
   | 3=>guardB ((lentOf h args).ok&&bsOK h) (KM P G f (trL (renOf (lentOf h args).blocks) args) (lentH h (lentOf h args)) (post f) fun v us=>guardB (mfit h (post f (lentH h (lentOf h args)) us) (lentOf h args).blocks) <| rt f us v fun v =>
     k (v.tr (backT (lentOf h args).blocks (lentOf h args).nxt h.nxt)) (mergeH h (lentOf h args) (post f (lentH h (lentOf h args)) us)))
   | _=>K P G f args h (fun _=>true) k,
  fun f args h b=>match mode f with | 3=>(lentOf h args).blocks.any fun p=>p.1.beq b | _=>true,true,base,G,fun _ _ _ _=>False,fun _=>true⟩
theorem typedR_rep {P:Program} {t:Option TypeId} {v:V} {k:V→Prop} (h:typedR P t v k) : ∃ v', k v' ∧ ∀ {F:Nat→Prop} {w:World} {ν:Nu} {x:Value},rep F w ν v x→rep F w ν v' x:=by
 cases t with
 | none=>exact ⟨v,h,fun h=>h⟩
 | some t=>exact typedT_rep h
theorem callsF_ok {P:Program} {G:Nat→Option (List V)} {kn:FuncId→Option V} {mode:FuncId→Nat} {fz:Tmp→Bool} {base:Nat} {post:FuncId→Hp→Us→Hp} {rt:FuncId→Us→V→(V→Prop)→Prop} (hkn : ∀ g r,kn g=some r→K0G P G g [] fun v=>v=r) (hrt : ∀ f us v k,rt f us v k → ∃ v', k v' ∧ ∀ {F:Nat→Prop} {w:World} {ν:Nu} {x:Value},rep F w ν v x→rep F w ν v' x):(callsF P G kn mode fz base post rt).ok P:=by
 refine ⟨hkn,fun _ _ _ _ _ h=>K_of_K0 h,fun _ _ _ _ _ h1 h2=>K_of_KB h1 h2,fun _ _ _ _ _ h=>K_of_K0t h,fun _ _ _ _ h hr=>h.mono hr,fun _ _ _ h=>h,?_,fun _ _ _ _ h=>h.elim⟩
 intro f args h R hc
 by_cases hm:mode f=3
 ·simp only [callsF,hm] at hc ⊢
  rw [guardB_iff,Bool.and_eq_true] at hc
  obtain ⟨⟨hok,hbs⟩,hc⟩:=hc
  refine K_frame rfl hok hbs ?_
  intro ν F w xs g1 g2 g3
  refine (hc ν F w xs g1 g2 g3).mono fun e w' ⟨x,v,ν', F', h', z1,⟨es,z2,z3⟩,z4,z5,z6⟩=>?_
  have z3:=guardB_iff.1 z3
  obtain ⟨v', hk,hrv⟩:=hrt _ _ _ _ z3.2
  exact ⟨x,v', ν', F', h', z1,by rw [z2]; exact ⟨z3.1,hk⟩,z4,hrv z5,z6⟩
 ·simp only [callsF] at hc ⊢
  exact hc
def sameP (_:FuncId) (h:Hp) (_:Us):Hp:=h
noncomputable def cfgM (P:Program) (glob:Nat→Option (List V)) (mode:FuncId→Nat) (T:FuncId→Option TypeId) (enter:FuncId→Bool) (kps:FuncId→Nat→Option (List Tmp)):Cfg where
 C0:=callsF P glob (fun _=>none) mode (fun _=>false) 0 sameP fun f _ v k=>typedR P (T f) v k
 enter:=enter
 clean:=fun _=>true
 kps:=kps
theorem cfgM_ok {P:Program} {glob:Nat→Option (List V)} {mode:FuncId→Nat} {T:FuncId→Option TypeId} {enter:FuncId→Bool} {kps:FuncId→Nat→Option (List Tmp)}:(cfgM P glob mode T enter kps).ok P :=
 ⟨callsF_ok (fun _ _ h=>by cases h) (fun f us v k h=>typedR_rep h),knowsY_none⟩
theorem K0_by {P:Program} (hm:P.follows .mixedOrders=true) {cfg:Cfg} (hcf:cfg.ok P) (fuel:Nat) {f:FuncId} {fn:Func} (hf:P.funcs[f]? = some fn) {args:List V} {R:V→Prop} {p:Prop} (h:p=WY0 P cfg fuel f fn args R) (hp:p):K0G P cfg.glob f args R:=K0_of_WY0 hm hcf fuel hf (h ▸ hp)
def rfA:Code→Code | .rangeFunc _ _ a _=>a | c=>c
def rfB:Code→Code | .rangeFunc _ _ _ b=>b | c=>c
section
variable (cfg:Cfg) (base:Bs) (P:Program) (C:Calling) (N:Nat) (all:List Oper)
end
inductive Stp where
 | q (p:Prep)
 | e (p:Prep)
 | w (p:Prep) (rs:List Prep)
 | bad
section
variable (cfg:Cfg) (base:Bs) (P:Program) (C:Calling) (N:Nat) (all:List Oper)
end
end Go.Proofs.Ytmddjopahcbefaa.Clean

namespace Go.Proofs.Ytmddjopahcbefaa
open Go Go.Proofs.Ytmddjopahcbefaa.Clean
set_option linter.unusedVariables false
set_option maxRecDepth 100000
def glX:Nat→Option (List V):=fun _=>none
theorem hmX:Try.prog.follows .mixedOrders=true:=by kernel_rfl
def u8v (n:Int):V := .raw (.int .u8 n)
abbrev It:=Int×Int×Int
def itm (x:It):List V:=[iv x.1,u8v x.2.1,iv x.2.2]
def itl (l:List It):List (List V):=l.map itm
def pll (l:List (List It)):List (List V):=l.map fun x=>[.lst 3 (itl x)]
def nl (l:List Int):List (List V):=l.map fun n=>[iv n]
def nn (l:List Nat):List (List V):=l.map fun (n:Nat)=>[iv (n:Int)]
def sv (s:Nat):V:=u8v (s:Int)
def kpP:FuncId→Nat→Option (List Tmp):=slotsOf [(134,0,[0,5,6]),(114,0,[1,2,8,10,20,21,22]),(41,0,[1,6,9,10,11]),(72,0,[0,3]),(9999,0,[0,1,2,3,13,14,15]),(9999,2,[0,1,2,3,9,13,14,15,20,21,22]),(9999,0,[1,2,7,9,12,13,14]),(96,0,[0,1,2,7]),(9999,0,[3,6,7,8]),(69,0,[0,1,4,5,6]),(42,0,[0,1,7,8,9]),(13,0,[13,14,15]),(36,0,[6,7,8]),(68,0,[15,16,17]),(8,0,[5,6,7]),(35,0,[0,3,4]),(115,0,[0,1,9,10,11]),(9999,0,[0,1,2,3,9,10,12,13,14,15,69,70,71]),(9999,2,[0,1,2,3,9,10,12,13,14,15,109,110]),(9999,4,[0,1,9,10,12,13,14,15,139,140,141])]
def moC (f:FuncId):Nat:=bif inN [9999,9999] f then 4 else 0
def tyC (f:FuncId):Option TypeId:=none
noncomputable def cfM:Cfg:=cfgM Try.prog glX moC tyC (inN [113,134,43,44,57,106,131,67,105,125,138,91]) kpP
noncomputable def sh43a (a o:List It) (k:Nat):St:=⟨mkT [(1,V.lst 3 (itl o)),(6,nilS),(9,V.lst 3 (itl a)),(10,iv ((itl a).length:Int)),(11,iv (k:Int))],⟨[],0,[]⟩⟩
noncomputable def sh43b (a o l:List It) (k:Nat):St:=⟨mkT [(1,V.lst 3 (itl o)),(6,V.sl (Id.p 0) 0 l.length),(9,V.lst 3 (itl a)),(10,iv ((itl a).length:Int)),(11,iv (k:Int))],⟨[(0,O.rows 3 true (itl l))],1,[]⟩⟩
noncomputable def sh90a (s:Nat):St:=⟨mkT [(0,sv s),(3,nilS)],⟨[],0,[]⟩⟩
noncomputable def sh90b (s:Nat) (l:List Nat):St:=⟨mkT [(0,sv s),(3,V.sl (Id.p 0) 0 l.length)],⟨[(0,O.rows 1 true (nn l))],1,[]⟩⟩
noncomputable def sh98 (plans:List (List It)) (vals:List Int) (e:Nat) (q:List (List V)) (s:Nat) (v:Int) (l:List (List V)) (d k:Nat):St:=⟨mkT [(1,V.lst 1 (pll plans)),(2,V.lst 1 (nl vals)),(8,V.ptr (Id.p 0) 0 0),(10,V.ptr (Id.p 1) 0 0),(20,V.lst e q),(21,iv (q.length:Int)),(22,iv (k:Int))],⟨[(0,O.rows 3 false [[sv 0,iv 0,nilS]]),(1,O.rows 3 false [[sv s,iv v,V.lst d l]])],2,[]⟩⟩
noncomputable def sh43 (a:List It) (s:List It×List It×Nat):St:=match s.2.1 with | []=>sh43a a s.1 s.2.2 | x::r=>sh43b a s.1 (x::r) s.2.2
noncomputable def sh90 (s:Nat×List Nat):St:=match s.2 with | []=>sh90a s.1 | x::r=>sh90b s.1 (x::r)
def lsI (l:List It):V:=match l with | []=>nilS | x::r => .lst 3 (itl (x::r))
def lsN (l:List Nat):V:=match l with | []=>nilS | x::r => .lst 1 (nn (x::r))
abbrev Ch:=Nat×Int×List It×Nat
def chr (c:Ch):List V:=[sv c.1,iv c.2.1,.lst c.2.2.2 (itl c.2.2.1)]
def chl (l:List Ch):List (List V):=l.map chr
noncomputable def rec51 (bx:List It) (plans:List (List It)) (vals:List Int):Lr:=⟨.ready,none,mkT [(0,V.lst 3 (itl bx)),(1,V.lst 1 (pll plans)),(2,V.lst 1 (nl vals)),(3,V.ptr (Id.p 0) 0 0),(4,V.ptr (Id.p 1) 0 0),(5,V.ptr (Id.p 2) 0 0),(6,nilS),(7,V.ptr (Id.p 3) 0 0),(11,V.lst 1 (pll plans)),(12,iv ((pll plans).length:Int)),(13,V.fn (Fn.func 134) [] [V.ptr (Id.p 4) 0 0])],29,Array.mk [14],rfA (cdAt [1,1,0,1,0] (bodyOf Try.f70)),rfB (cdAt [1,1,0,1,0] (bodyOf Try.f70)),70⟩
noncomputable def sh51a (bx:List It) (plans:List (List It)) (vals:List Int) (N i:Nat):St:=⟨mkT [(0,V.yl (Id.p 5)),(5,iv (N:Int)),(6,iv (i:Int))],⟨[(5,O.lp (rec51 bx plans vals)),(4,O.rows 1 false [[iv ((pll plans).length:Int)]]),(3,O.rows 1 false [[nilS]]),(2,O.rows 1 false [[V.lst 1 (nl vals)]]),(1,O.rows 1 false [[V.lst 1 (pll plans)]]),(0,O.rows 1 false [[V.lst 3 (itl bx)]])],6,[]⟩⟩
noncomputable def cfI:Cfg:={ cfM with clean:=fun g => !inN [134] g }
noncomputable def sh51b (bx:List It) (plans:List (List It)) (vals:List Int) (N i:Nat) (cs:List Ch):St:=⟨mkT [(0,V.yl (Id.p 5)),(5,iv (N:Int)),(6,iv (i:Int))],⟨[(5,O.lp (rec51 bx plans vals)),(3,O.rows 1 false [[V.sl (Id.p 6) 0 cs.length]]),(4,O.rows 1 false [[iv ((pll plans).length:Int)]]),(2,O.rows 1 false [[V.lst 1 (nl vals)]]),(1,O.rows 1 false [[V.lst 1 (pll plans)]]),(0,O.rows 1 false [[V.lst 3 (itl bx)]]),(6,O.rows 3 true (chl cs))],7,[]⟩⟩
noncomputable def sh51 (bx:List It) (plans:List (List It)) (vals:List Int) (N:Nat) (x:Nat×List Ch):St:=match x.2 with | []=>sh51a bx plans vals N x.1 | c::r=>sh51b bx plans vals N x.1 (c::r)
noncomputable def sh115 (a b:List Nat) (k:Nat):St:=⟨mkT [(0,V.lst 1 (nn a)),(1,V.lst 1 (nn b)),(9,V.lst 1 (nn a)),(10,iv ((nn a).length:Int)),(11,iv (k:Int))],⟨[],0,[]⟩⟩
noncomputable def sh88 (cs:List Ch) (c:Ch) (k:Nat):St:=⟨mkT [(0,V.lst 3 (chl cs)),(1,V.fn (Fn.func 71) [] []),(4,V.ptr (Id.p 0) 0 0),(5,V.ptr (Id.p 1) 0 0),(6,iv (k:Int))],⟨[(0,O.rows 3 false [[sv 0,iv 0,nilS]]),(1,O.rows 3 false [chr c])],2,[]⟩⟩
noncomputable def sh42 (p:List (List It)) (k:Nat):St:=⟨mkT [(6,V.lst 1 (pll p)),(7,iv ((pll p).length:Int)),(8,iv (k:Int))],⟨[],0,[]⟩⟩
noncomputable def sh49 (v:List Int) (k:Nat):St:=⟨mkT [(15,V.lst 1 (nl v)),(16,iv ((nl v).length:Int)),(17,iv (k:Int))],⟨[],0,[]⟩⟩
def ul (l:List Nat):List (List V):=l.map fun n=>[sv n]
noncomputable def sh28 (p:List (List It)) (k:Nat):St:=⟨mkT [(5,V.lst 1 (pll p)),(6,iv ((pll p).length:Int)),(7,iv (k:Int))],⟨[],0,[]⟩⟩
noncomputable def sh78 (l:List It) (n:Int) (k:Nat):St:=⟨mkT [(0,V.lst 3 (itl l)),(3,iv n),(4,iv (k:Int))],⟨[],0,[]⟩⟩
set_option linter.unusedSimpArgs false
set_option maxRecDepth 10000
theorem hcM:cfM.ok Try.prog:=cfgM_ok
theorem ifB_t {b:Bool} {p q:Prop} (hb:b=true) (h:p):ifB b p q:=by subst hb; exact h
theorem ifB_f {b:Bool} {p q:Prop} (hb:b=false) (h:q):ifB b p q:=by subst hb; exact h
theorem onIntK_u8 {n:Int} {k:Int→Prop} (h:k n):onIntK .u8 (u8v n) k:=h
def wo (s n:Nat):Nat:=bif s.testBit n then s - 2 ^ n else s
def fi (s:Nat):Nat:=((List.range 8).find? fun i=>s.testBit i).getD 8
theorem wo_bits : ∀ s,s<256 → ∀ n,n<8→IntKind.u8.wrap (↑(BitVec.ofInt 8 ((s:Nat):Int) &&& ~~~BitVec.ofInt 8 (IntKind.u8.wrap ((1:Int) * (2:Int) ^ min ((n:Nat):Int).toNat 8))).toNat:Int)=((wo s n:Nat):Int):=by decide +kernel
theorem fi_bit : ∀ s,s<256→s≠0→fi s<8∧s.testBit (fi s)=true:=by decide +kernel
theorem wo_le (s n:Nat):wo s n≤s:=by unfold wo; cases s.testBit n <;> simp
theorem wo_lt {s n:Nat} (h:s.testBit n=true):wo s n<s:=by
 unfold wo
 rw [h]
 have:2 ^ n≤s:=Nat.ge_two_pow_of_testBit h
 have:=Nat.two_pow_pos n
 simp only [cond_true]
 omega
theorem without70 {s n:Nat} {R:V→Prop} (hs:s<256) (hn:n<8) (h:R (sv (wo s n))):K0G Try.prog glX 116 [sv s,iv (n:Int)] R:=by
 refine K0_of_WY0 hmX hcM 100 Try.func116 (see (p:=R (V.raw (Value.int IntKind.u8 (IntKind.u8.wrap (↑(BitVec.ofInt 8 (↑s:Int) &&& ~~~BitVec.ofInt 8 (IntKind.u8.wrap ((1:Int) * (2:Int) ^ min (↑n:Int).toNat 8))).toNat:Int))))) (by kernel_rfl) ?_)
 rw [wo_bits s hs n hn]
 exact h
theorem fi_le : ∀ s,s<256→fi s≤8:=by decide +kernel
def tab8:Array UInt8:=(List.range 256).map (fun s=>UInt8.ofNat (fi s)) |>.toArray
theorem first73 {s:Nat} {R:V→Prop} (hs:s<256) (h:R (iv (fi s:Int))):K0G Try.prog glX 120 [sv s] R:=by
 refine K0_of_WY0 hmX hcM 100 Try.func120 (see (p:=onSome (ByteArray.mk (([(8:UInt8),(0:UInt8),(1:UInt8),(0:UInt8),(2:UInt8),(0:UInt8),(1:UInt8),(0:UInt8),(3:UInt8),(0:UInt8),(1:UInt8),(0:UInt8),(2:UInt8),(0:UInt8),(1:UInt8),(0:UInt8),(4:UInt8),(0:UInt8),(1:UInt8),(0:UInt8),(2:UInt8),(0:UInt8),(1:UInt8),(0:UInt8),(3:UInt8),(0:UInt8),(1:UInt8),(0:UInt8),(2:UInt8),(0:UInt8),(1:UInt8),(0:UInt8),(5:UInt8),(0:UInt8),(1:UInt8),(0:UInt8),(2:UInt8),(0:UInt8),(1:UInt8),(0:UInt8),(3:UInt8),(0:UInt8),(1:UInt8),(0:UInt8),(2:UInt8),(0:UInt8),(1:UInt8),(0:UInt8),(4:UInt8),(0:UInt8),(1:UInt8),(0:UInt8),(2:UInt8),(0:UInt8),(1:UInt8),(0:UInt8),(3:UInt8),(0:UInt8),(1:UInt8),(0:UInt8),(2:UInt8),(0:UInt8),(1:UInt8),(0:UInt8)].append [(6:UInt8),(0:UInt8),(1:UInt8),(0:UInt8),(2:UInt8),(0:UInt8),(1:UInt8),(0:UInt8),(3:UInt8),(0:UInt8),(1:UInt8),(0:UInt8),(2:UInt8),(0:UInt8),(1:UInt8),(0:UInt8),(4:UInt8),(0:UInt8),(1:UInt8),(0:UInt8),(2:UInt8),(0:UInt8),(1:UInt8),(0:UInt8),(3:UInt8),(0:UInt8),(1:UInt8),(0:UInt8),(2:UInt8),(0:UInt8),(1:UInt8),(0:UInt8),(5:UInt8),(0:UInt8),(1:UInt8),(0:UInt8),(2:UInt8),(0:UInt8),(1:UInt8),(0:UInt8),(3:UInt8),(0:UInt8),(1:UInt8),(0:UInt8),(2:UInt8),(0:UInt8),(1:UInt8),(0:UInt8),(4:UInt8),(0:UInt8),(1:UInt8),(0:UInt8),(2:UInt8),(0:UInt8),(1:UInt8),(0:UInt8),(3:UInt8),(0:UInt8),(1:UInt8),(0:UInt8),(2:UInt8),(0:UInt8),(1:UInt8),(0:UInt8)]).append ([(7:UInt8),(0:UInt8),(1:UInt8),(0:UInt8),(2:UInt8),(0:UInt8),(1:UInt8),(0:UInt8),(3:UInt8),(0:UInt8),(1:UInt8),(0:UInt8),(2:UInt8),(0:UInt8),(1:UInt8),(0:UInt8),(4:UInt8),(0:UInt8),(1:UInt8),(0:UInt8),(2:UInt8),(0:UInt8),(1:UInt8),(0:UInt8),(3:UInt8),(0:UInt8),(1:UInt8),(0:UInt8),(2:UInt8),(0:UInt8),(1:UInt8),(0:UInt8),(5:UInt8),(0:UInt8),(1:UInt8),(0:UInt8),(2:UInt8),(0:UInt8),(1:UInt8),(0:UInt8),(3:UInt8),(0:UInt8),(1:UInt8),(0:UInt8),(2:UInt8),(0:UInt8),(1:UInt8),(0:UInt8),(4:UInt8),(0:UInt8),(1:UInt8),(0:UInt8),(2:UInt8),(0:UInt8),(1:UInt8),(0:UInt8),(3:UInt8),(0:UInt8),(1:UInt8),(0:UInt8),(2:UInt8),(0:UInt8),(1:UInt8),(0:UInt8)].append [(6:UInt8),(0:UInt8),(1:UInt8),(0:UInt8),(2:UInt8),(0:UInt8),(1:UInt8),(0:UInt8),(3:UInt8),(0:UInt8),(1:UInt8),(0:UInt8),(2:UInt8),(0:UInt8),(1:UInt8),(0:UInt8),(4:UInt8),(0:UInt8),(1:UInt8),(0:UInt8),(2:UInt8),(0:UInt8),(1:UInt8),(0:UInt8),(3:UInt8),(0:UInt8),(1:UInt8),(0:UInt8),(2:UInt8),(0:UInt8),(1:UInt8),(0:UInt8),(5:UInt8),(0:UInt8),(1:UInt8),(0:UInt8),(2:UInt8),(0:UInt8),(1:UInt8),(0:UInt8),(3:UInt8),(0:UInt8),(1:UInt8),(0:UInt8),(2:UInt8),(0:UInt8),(1:UInt8),(0:UInt8),(4:UInt8),(0:UInt8),(1:UInt8),(0:UInt8),(2:UInt8),(0:UInt8),(1:UInt8),(0:UInt8),(3:UInt8),(0:UInt8),(1:UInt8),(0:UInt8),(2:UInt8),(0:UInt8),(1:UInt8),(0:UInt8)])).toArray)[s]? fun b=>R (iv (IntKind.i64.wrap (↑b.toNat:Int)))) (by kernel_rfl) ?_)
 have key : ∀ s,s<256 → ∃ b:UInt8,tab8[s]? = some b∧b.toNat=fi s:=fun s hs=>⟨UInt8.ofNat (fi s),by simp [tab8,hs],by revert s hs; decide +kernel⟩
 obtain ⟨b,h1,h2⟩:=key s hs
 refine onSome_mk (x:=b) ((show _=tab8[s]? by congr 1).trans h1) ?_
 rw [h2,wr (by omega) (by have:=(fi_le s hs); omega)]
 exact h
theorem first45 {s:Nat} {R:V→Prop} (hs:s<256) (h:R (iv (fi s:Int))):K0G Try.prog glX 82 [sv s] R:=by
 refine K0_of_WY0 hmX hcM 100 Try.func82 (see (p:=K0G Try.prog glX 120 [V.raw (Value.int IntKind.u8 (↑s:Int))] fun v=>onIntK IntKind.i64 v fun n=>R (iv n)) (by kernel_rfl) ?_)
 exact first73 hs (onIntK_iv h)
theorem hJ' {J:St→Prop} {s s' : St} (he:s=s') (h:J s'):J s:=he ▸ h
theorem itl_length (l:List It):(itl l).length=l.length:=by simp [itl]
theorem wr1i {i n:Nat} (h:i<n) (hn:(n:Int)≤9223372036854775807):IntKind.i64.wrap ((i:Int)+1)=((i+1:Nat):Int):=by rw [wr (by omega) (by omega)]; simp
def Nok (x:It):Prop:=0≤x.2.2∧x.2.2≤1000000
def takeF (x:It):List It→Int×List It
 | []=>(x.2.2,[])
 | y::o=>if y.1=x.1∧y.2.1=x.2.1 then (x.2.2 - y.2.2,o) else (x.2.2,y::o)
def keepF (x:It) (n:Int):List It:=if 0<n then [(x.1,x.2.1,n)] else []
def restF:List It→List It→Option (List It×List It)
 | [],o=>some ([],o)
 | x::a,o=>if (takeF x o).1<0 then none else (restF a (takeF x o).2).map fun p=>(keepF x (takeF x o).1++p.1,p.2)
def restV:Option (List It×List It)→V
 | none => .tup [nilS,bv false]
 | some (l,o) => .tup [lsI l,bv o.isEmpty]
theorem takeF_ok {x:It} {o:List It} (hx:Nok x) (ho : ∀ y∈o,Nok y) : -1000000≤(takeF x o).1∧(takeF x o).1≤1000000 ∧ ∀ y∈(takeF x o).2,Nok y:=by
 cases o with
 | nil=>exact ⟨by have:=hx.1; show _≤x.2.2; omega,hx.2,fun y h=>by cases h⟩
 | cons y o =>
  have h1:=ho y (by simp)
  by_cases hc:y.1=x.1∧y.2.1=x.2.1
  ·rw [show takeF x (y::o)=(x.2.2 - y.2.2,o) from if_pos hc]
   exact ⟨by have:=hx.1; have:=h1.2; show _≤x.2.2 - y.2.2; omega,by have:=hx.2; have:=h1.1; show x.2.2 - y.2.2≤_; omega,fun z hz=>ho z (by simp [show z∈o from hz])⟩
  ·rw [show takeF x (y::o)=(x.2.2,y::o) from if_neg hc]
   exact ⟨by have:=hx.1; show _≤x.2.2; omega,hx.2,ho⟩
theorem sub_all {α:Type} (l:List α):sub l 0 l.length=l:=by simp [sub]
theorem sub_tl {α:Type} (x:α) (l:List α):sub (x::l) 1 ((x::l).length - 1)=l:=by simp [sub]
theorem itl_take (l:List It):List.take l.length (itl l)=itl l:=by rw [← itl_length]; exact List.take_length
theorem sh43_b {a o l:List It} {k:Nat} (h:l≠[]):sh43 a (o,l,k)=sh43b a o l k:=by cases l with | nil=>exact (h rfl).elim | cons x r=>rfl
theorem lsI_b {l:List It} (h:l≠[]):lsI l = .lst 3 (itl l):=by cases l with | nil=>exact (h rfl).elim | cons x r=>rfl
theorem eqP {x y:It}:(y.1==x.1&&(fun b=>y.2.1==x.2.1&&b) true)=true↔y.1=x.1∧y.2.1=x.2.1:=by simp
theorem rest43 {a b:List It} {R:V→Prop} (ha : ∀ x∈a,Nok x) (hb : ∀ x∈b,Nok x) (hla:a.length≤1000000) (h:R (restV (restF a b))):K0G Try.prog glX 41 [.lst 3 (itl a),.lst 3 (itl b)] R:=by
 refine K0_of_WY0 hmX hcM 3000 Try.func41 (see (p:=La 0 [(1:Tmp),(6:Tmp),(9:Tmp),(10:Tmp),(11:Tmp)] (WY Try.prog cfM 2994 (Env.mk (Bs.mk 0 []) 0 none 52 41 0) (cdAt [1,1,0,1,0,0] (bodyOf Try.f41))) (Qblk 0 (Qthen (WY Try.prog cfM 2997 (Env.mk (Bs.mk 0 []) 0 none 52 41 0) (cdAt [1,1,1] (bodyOf Try.f41)) (QendX Try.prog Try.f41 fun v h=>R (frzW h v))) (QendX Try.prog Try.f41 fun v h=>R (frzW h v)))) (St.mk (mkT [(1,V.lst 3 (itl b)),(6,nilS),(9,V.lst 3 (itl a)),(10,iv (↑(itl a).length:Int)),(11,iv (0:Int))]) (Hp.mk [] 0 []))) (by kernel_rfl) ?_)
 refine La.of (σ:=List It×List It×Nat) (fun s=>sh43 a s) (fun s=>(∀ y∈s.1,Nok y)∧s.2.1.length≤s.2.2∧s.2.2≤a.length∧restF a b=(restF (a.drop s.2.2) s.1).map fun p=>(s.2.1++p.1,p.2)) (fun s=>a.length - s.2.2) (b,[],0) (by kernel_rfl) ⟨hb,by simp,by simp,by simp⟩ ?_
 rintro ⟨o,l,k⟩ ⟨h1,h2,h3,h4⟩ J hJ
 simp only at h1 h2 h3 h4
 by_cases hlt:k<a.length
 ·obtain ⟨x,hx⟩ : ∃ x,a[k]? = some x:=⟨a[k],by simp [hlt]⟩
  have hxm:Nok x:=ha x (List.mem_of_getElem? hx)
  have hd:a.drop k=x::a.drop (k+1):=by
   have:=List.drop_eq_getElem_cons hlt
   rw [this]; congr 1; simpa [hlt] using hx
  rw [hd] at h4
  simp only [restF] at h4
  have ⟨t1,t2,t3⟩:=takeF_ok hxm h1
  have bad : ∀ p:Int×List It,takeF x o=p→p.1<0→R (.tup [nilS,bv false]):=by
   rintro p rfl hp
   rw [if_pos hp] at h4
   rw [h4] at h
   exact h
  have go : ∀ p:Int×List It,takeF x o=p → ¬ p.1<0→J (sh43 a (p.2,l++keepF x p.1,k+1)):=by
   rintro p rfl hp
   rw [if_neg hp] at h4
   refine hJ (_,_,k+1) ⟨t3,?_,(by simp only; omega),?_⟩ (by simp only; omega)
   ·have:(keepF x (takeF x o).1).length≤1:=by unfold keepF; split <;> simp
    simp only [List.length_append]
    omega
   ·simp only
    rw [h4,Option.map_map]
    congr 1
    funext q
    simp [List.append_assoc]
  have hw:IntKind.i64.wrap ((k:Int)+1)=((k+1:Nat):Int):=wr1i hlt (by omega)
  by_cases hl:l=[]
  ·subst hl
   refine see (p:=ifB (decide ((↑k:Int)<(↑(itl a).length:Int))) (onSome (itl a)[k]? fun row=>onCons (List.drop 0 row) fun u r=>onIntK IntKind.i64 u fun n=>onCons r fun u r=>onIntK IntKind.u8 u fun n_1=>onCons r fun u r=>onIntK IntKind.i64 u fun n_2=>ifB (decide ((↑(itl o).length:Int) > (0:Int))) (onSome (itl o)[0]? fun row=>onCons (List.drop 0 row) fun u r=>onIntK IntKind.i64 u fun n_3=>onCons r fun u r=>onIntK IntKind.u8 u fun n_4=>onCons r fun u r=>onIntK IntKind.i64 u fun n_5=>ifB (n_3==n&&(fun b=>n_4==n_1&&b) true) (onSome (itl o)[0]? fun row=>onSome row[2]? fun v=>onIntK IntKind.i64 v fun n_6=>need ((itl o).length≤(itl o).length) (need (1≤(itl o).length) (ifB (decide (IntKind.i64.wrap (n_2 - n_6)<(0:Int))) (R (V.tup [nilS,bv false])) (ifB (decide (IntKind.i64.wrap (n_2 - n_6) > (0:Int))) (J (St.mk (mkT [(1,V.lst 3 (sub (itl o) 1 ((itl o).length - 1))),(6,V.sl (Id.p 0) 0 1),(9,V.lst 3 (itl a)),(10,iv (↑(itl a).length:Int)),(11,iv (IntKind.i64.wrap ((↑k:Int)+(1:Int))))]) (Hp.mk [(0,O.rows 3 true [[iv n,V.raw (Value.int IntKind.u8 n_1),iv (IntKind.i64.wrap (n_2 - n_6))]])] 1 []))) (J (St.mk (mkT [(1,V.lst 3 (sub (itl o) 1 ((itl o).length - 1))),(6,nilS),(9,V.lst 3 (itl a)),(10,iv (↑(itl a).length:Int)),(11,iv (IntKind.i64.wrap ((↑k:Int)+(1:Int))))]) (Hp.mk [] 0 []))))))) (ifB (decide (n_2<(0:Int))) (R (V.tup [nilS,bv false])) (ifB (decide (n_2 > (0:Int))) (J (St.mk (mkT [(1,V.lst 3 (itl o)),(6,V.sl (Id.p 0) 0 1),(9,V.lst 3 (itl a)),(10,iv (↑(itl a).length:Int)),(11,iv (IntKind.i64.wrap ((↑k:Int)+(1:Int))))]) (Hp.mk [(0,O.rows 3 true [[iv n,V.raw (Value.int IntKind.u8 n_1),iv n_2]])] 1 []))) (J (St.mk (mkT [(1,V.lst 3 (itl o)),(6,nilS),(9,V.lst 3 (itl a)),(10,iv (↑(itl a).length:Int)),(11,iv (IntKind.i64.wrap ((↑k:Int)+(1:Int))))]) (Hp.mk [] 0 [])))))) (ifB (decide (n_2<(0:Int))) (R (V.tup [nilS,bv false])) (ifB (decide (n_2 > (0:Int))) (J (St.mk (mkT [(1,V.lst 3 (itl o)),(6,V.sl (Id.p 0) 0 1),(9,V.lst 3 (itl a)),(10,iv (↑(itl a).length:Int)),(11,iv (IntKind.i64.wrap ((↑k:Int)+(1:Int))))]) (Hp.mk [(0,O.rows 3 true [[iv n,V.raw (Value.int IntKind.u8 n_1),iv n_2]])] 1 []))) (J (St.mk (mkT [(1,V.lst 3 (itl o)),(6,nilS),(9,V.lst 3 (itl a)),(10,iv (↑(itl a).length:Int)),(11,iv (IntKind.i64.wrap ((↑k:Int)+(1:Int))))]) (Hp.mk [] 0 [])))))) (R (V.tup [nilS,bv ((↑(itl o).length:Int)==(0:Int))]))) (by kernel_rfl) ?_
   rw [itl_length,itl_length,hw]
   refine ifB_t (by simpa using hlt) ?_
   refine onSome_mk (x:=itm x) (by simp [itl,hx]) (onCons_cons (onIntK_iv (onCons_cons (onIntK_u8 (onCons_cons (onIntK_iv ?_))))))
   have fin : ∀ p:Int×List It,takeF x o=p → ∀ (m:Int) (o' : List (List V)),m=p.1→o' = itl p.2→ifB (decide (m<0)) (R (V.tup [nilS,bv false])) (ifB (decide (m > 0)) (J (St.mk (mkT [(1,V.lst 3 o'),(6,V.sl (Id.p 0) 0 1),(9,V.lst 3 (itl a)),(10,iv (a.length:Int)),(11,iv ((k+1:Nat):Int))]) (Hp.mk [(0,O.rows 3 true [[iv x.1,V.raw (Value.int IntKind.u8 x.2.1),iv m]])] 1 []))) (J (St.mk (mkT [(1,V.lst 3 o'),(6,nilS),(9,V.lst 3 (itl a)),(10,iv (a.length:Int)),(11,iv ((k+1:Nat):Int))]) (Hp.mk [] 0 [])))):=by
    rintro p hp m o' rfl rfl
    refine ifB_mk (fun hc=>bad p hp (of_decide_eq_true hc)) (fun hc=>?_)
    have g:=go p hp (of_decide_eq_false hc)
    refine ifB_mk (fun hd=>?_) (fun hd=>?_)
    ·rw [show keepF x p.1=[(x.1,x.2.1,p.1)] from if_pos (of_decide_eq_true hd)] at g
     exact hJ' (by simp [sh43,sh43b,itl,itm,u8v]) g
    ·rw [show keepF x p.1=[] from if_neg (of_decide_eq_false hd)] at g
     exact hJ' (by simp [sh43,sh43a,itl_length]) g
   refine ifB_mk (fun ho=>?_) (fun ho=>?_)
   ·obtain ⟨y,t,rfl⟩ : ∃ y t,o=y::t:=by cases o with | nil=>simp at ho | cons y t=>exact ⟨y,t,rfl⟩
    refine onSome_mk (x:=itm y) (by simp [itl]) (onCons_cons (onIntK_iv (onCons_cons (onIntK_u8 (onCons_cons (onIntK_iv ?_))))))
    refine ifB_mk (fun he=>?_) (fun he=>?_)
    ·refine onSome_mk (x:=itm y) (by simp [itl]) (onSome_mk (x:=iv y.2.2) rfl (onIntK_iv (need_mk ⟨Nat.le_refl _,need_mk ⟨by simp,?_⟩⟩)))
     have hy:=h1 y (by simp)
     rw [wr (by have:=hxm.1; have:=hy.2; omega) (by have:=hxm.2; have:=hy.1; omega)]
     exact fin (x.2.2 - y.2.2,t) (if_pos (eqP.1 he)) _ _ rfl (by rw [show itl (y::t)=itm y::itl t from rfl,← itl_length (y::t)]; exact sub_tl _ _)
    ·exact fin (x.2.2,y::t) (if_neg (fun e=>by rw [eqP.2 e] at he; cases he)) _ _ rfl rfl
   ·obtain rfl:o=[]:=by cases o with | nil=>rfl | cons y t=>simp at ho
    exact fin (x.2.2,[]) rfl _ _ rfl rfl
  ·rw [sh43_b hl]
   refine see (p:=ifB (decide ((↑k:Int)<(↑(itl a).length:Int))) (onSome (itl a)[k]? fun row=>onCons (List.drop 0 row) fun u r=>onIntK IntKind.i64 u fun n=>onCons r fun u r=>onIntK IntKind.u8 u fun n_1=>onCons r fun u r=>onIntK IntKind.i64 u fun n_2=>ifB (decide ((↑(itl o).length:Int) > (0:Int))) (onSome (itl o)[0]? fun row=>onCons (List.drop 0 row) fun u r=>onIntK IntKind.i64 u fun n_3=>onCons r fun u r=>onIntK IntKind.u8 u fun n_4=>onCons r fun u r=>onIntK IntKind.i64 u fun n_5=>ifB (n_3==n&&(fun b=>n_4==n_1&&b) true) (onSome (itl o)[0]? fun row=>onSome row[2]? fun v=>onIntK IntKind.i64 v fun n_6=>need ((itl o).length≤(itl o).length) (need (1≤(itl o).length) (ifB (decide (IntKind.i64.wrap (n_2 - n_6)<(0:Int))) (R (V.tup [nilS,bv false])) (ifB (decide (IntKind.i64.wrap (n_2 - n_6) > (0:Int))) (need ((l.length+1) * 24≤140737488355328) (J (St.mk (mkT [(1,V.lst 3 (sub (itl o) 1 ((itl o).length - 1))),(6,V.sl (Id.p 0) 0 (l.length+1)),(9,V.lst 3 (itl a)),(10,iv (↑(itl a).length:Int)),(11,iv (IntKind.i64.wrap ((↑k:Int)+(1:Int))))]) (Hp.mk [(0,O.rows 3 true (List.take l.length (itl l)++[[iv n,V.raw (Value.int IntKind.u8 n_1),iv (IntKind.i64.wrap (n_2 - n_6))]]))] 1 [])))) (J (St.mk (mkT [(1,V.lst 3 (sub (itl o) 1 ((itl o).length - 1))),(6,V.sl (Id.p 0) 0 l.length),(9,V.lst 3 (itl a)),(10,iv (↑(itl a).length:Int)),(11,iv (IntKind.i64.wrap ((↑k:Int)+(1:Int))))]) (Hp.mk [(0,O.rows 3 true (itl l))] 1 []))))))) (ifB (decide (n_2<(0:Int))) (R (V.tup [nilS,bv false])) (ifB (decide (n_2 > (0:Int))) (need ((l.length+1) * 24≤140737488355328) (J (St.mk (mkT [(1,V.lst 3 (itl o)),(6,V.sl (Id.p 0) 0 (l.length+1)),(9,V.lst 3 (itl a)),(10,iv (↑(itl a).length:Int)),(11,iv (IntKind.i64.wrap ((↑k:Int)+(1:Int))))]) (Hp.mk [(0,O.rows 3 true (List.take l.length (itl l)++[[iv n,V.raw (Value.int IntKind.u8 n_1),iv n_2]]))] 1 [])))) (J (St.mk (mkT [(1,V.lst 3 (itl o)),(6,V.sl (Id.p 0) 0 l.length),(9,V.lst 3 (itl a)),(10,iv (↑(itl a).length:Int)),(11,iv (IntKind.i64.wrap ((↑k:Int)+(1:Int))))]) (Hp.mk [(0,O.rows 3 true (itl l))] 1 [])))))) (ifB (decide (n_2<(0:Int))) (R (V.tup [nilS,bv false])) (ifB (decide (n_2 > (0:Int))) (need ((l.length+1) * 24≤140737488355328) (J (St.mk (mkT [(1,V.lst 3 (itl o)),(6,V.sl (Id.p 0) 0 (l.length+1)),(9,V.lst 3 (itl a)),(10,iv (↑(itl a).length:Int)),(11,iv (IntKind.i64.wrap ((↑k:Int)+(1:Int))))]) (Hp.mk [(0,O.rows 3 true (List.take l.length (itl l)++[[iv n,V.raw (Value.int IntKind.u8 n_1),iv n_2]]))] 1 [])))) (J (St.mk (mkT [(1,V.lst 3 (itl o)),(6,V.sl (Id.p 0) 0 l.length),(9,V.lst 3 (itl a)),(10,iv (↑(itl a).length:Int)),(11,iv (IntKind.i64.wrap ((↑k:Int)+(1:Int))))]) (Hp.mk [(0,O.rows 3 true (itl l))] 1 [])))))) (R (V.tup [V.lst 3 (sub (itl l) 0 l.length),bv ((↑(itl o).length:Int)==(0:Int))]))) (by kernel_rfl) ?_
   rw [itl_length,itl_length,itl_take,hw]
   refine ifB_t (by simpa using hlt) ?_
   refine onSome_mk (x:=itm x) (by simp [itl,hx]) (onCons_cons (onIntK_iv (onCons_cons (onIntK_u8 (onCons_cons (onIntK_iv ?_))))))
   have fin : ∀ p:Int×List It,takeF x o=p → ∀ (m:Int) (o' : List (List V)),m=p.1→o' = itl p.2→ifB (decide (m<0)) (R (V.tup [nilS,bv false])) (ifB (decide (m > 0)) (need ((l.length+1) * 24≤140737488355328) (J (St.mk (mkT [(1,V.lst 3 o'),(6,V.sl (Id.p 0) 0 (l.length+1)),(9,V.lst 3 (itl a)),(10,iv (a.length:Int)),(11,iv ((k+1:Nat):Int))]) (Hp.mk [(0,O.rows 3 true (itl l++[[iv x.1,V.raw (Value.int IntKind.u8 x.2.1),iv m]]))] 1 [])))) (J (St.mk (mkT [(1,V.lst 3 o'),(6,V.sl (Id.p 0) 0 l.length),(9,V.lst 3 (itl a)),(10,iv (a.length:Int)),(11,iv ((k+1:Nat):Int))]) (Hp.mk [(0,O.rows 3 true (itl l))] 1 [])))):=by
    rintro p hp m o' rfl rfl
    refine ifB_mk (fun hc=>bad p hp (of_decide_eq_true hc)) (fun hc=>?_)
    have g:=go p hp (of_decide_eq_false hc)
    refine ifB_mk (fun hd=>need_mk ⟨by omega,?_⟩) (fun hd=>?_)
    ·rw [show keepF x p.1=[(x.1,x.2.1,p.1)] from if_pos (of_decide_eq_true hd),sh43_b (by simp)] at g
     exact hJ' (by simp [sh43b,itl,itm,u8v]) g
    ·rw [show keepF x p.1=[] from if_neg (of_decide_eq_false hd),List.append_nil,sh43_b hl] at g
     exact hJ' (by simp [sh43b,itl_length]) g
   refine ifB_mk (fun ho=>?_) (fun ho=>?_)
   ·obtain ⟨y,t,rfl⟩ : ∃ y t,o=y::t:=by cases o with | nil=>simp at ho | cons y t=>exact ⟨y,t,rfl⟩
    refine onSome_mk (x:=itm y) (by simp [itl]) (onCons_cons (onIntK_iv (onCons_cons (onIntK_u8 (onCons_cons (onIntK_iv ?_))))))
    refine ifB_mk (fun he=>?_) (fun he=>?_)
    ·refine onSome_mk (x:=itm y) (by simp [itl]) (onSome_mk (x:=iv y.2.2) rfl (onIntK_iv (need_mk ⟨Nat.le_refl _,need_mk ⟨by simp,?_⟩⟩)))
     have hy:=h1 y (by simp)
     rw [wr (by have:=hxm.1; have:=hy.2; omega) (by have:=hxm.2; have:=hy.1; omega)]
     exact fin (x.2.2 - y.2.2,t) (if_pos (eqP.1 he)) _ _ rfl (by rw [show itl (y::t)=itm y::itl t from rfl,← itl_length (y::t)]; exact sub_tl _ _)
    ·exact fin (x.2.2,y::t) (if_neg (fun e=>by rw [eqP.2 e] at he; cases he)) _ _ rfl rfl
   ·obtain rfl:o=[]:=by cases o with | nil=>rfl | cons y t=>simp at ho
    exact fin (x.2.2,[]) rfl _ _ rfl rfl
 ·have hd:a.drop k=[]:=List.drop_eq_nil_of_le (by omega)
  rw [hd] at h4
  simp only [restF,Option.map_some,List.append_nil] at h4
  rw [h4] at h
  by_cases hl:l=[]
  ·subst hl
   refine see (p:=ifB (decide ((↑k:Int)<(↑(itl a).length:Int))) (onSome (itl a)[k]? fun row=>onCons (List.drop 0 row) fun u r=>onIntK IntKind.i64 u fun n=>onCons r fun u r=>onIntK IntKind.u8 u fun n_1=>onCons r fun u r=>onIntK IntKind.i64 u fun n_2=>ifB (decide ((↑(itl o).length:Int) > (0:Int))) (onSome (itl o)[0]? fun row=>onCons (List.drop 0 row) fun u r=>onIntK IntKind.i64 u fun n_3=>onCons r fun u r=>onIntK IntKind.u8 u fun n_4=>onCons r fun u r=>onIntK IntKind.i64 u fun n_5=>ifB (n_3==n&&(fun b=>n_4==n_1&&b) true) (onSome (itl o)[0]? fun row=>onSome row[2]? fun v=>onIntK IntKind.i64 v fun n_6=>need ((itl o).length≤(itl o).length) (need (1≤(itl o).length) (ifB (decide (IntKind.i64.wrap (n_2 - n_6)<(0:Int))) (R (V.tup [nilS,bv false])) (ifB (decide (IntKind.i64.wrap (n_2 - n_6) > (0:Int))) (J (St.mk (mkT [(1,V.lst 3 (sub (itl o) 1 ((itl o).length - 1))),(6,V.sl (Id.p 0) 0 1),(9,V.lst 3 (itl a)),(10,iv (↑(itl a).length:Int)),(11,iv (IntKind.i64.wrap ((↑k:Int)+(1:Int))))]) (Hp.mk [(0,O.rows 3 true [[iv n,V.raw (Value.int IntKind.u8 n_1),iv (IntKind.i64.wrap (n_2 - n_6))]])] 1 []))) (J (St.mk (mkT [(1,V.lst 3 (sub (itl o) 1 ((itl o).length - 1))),(6,nilS),(9,V.lst 3 (itl a)),(10,iv (↑(itl a).length:Int)),(11,iv (IntKind.i64.wrap ((↑k:Int)+(1:Int))))]) (Hp.mk [] 0 []))))))) (ifB (decide (n_2<(0:Int))) (R (V.tup [nilS,bv false])) (ifB (decide (n_2 > (0:Int))) (J (St.mk (mkT [(1,V.lst 3 (itl o)),(6,V.sl (Id.p 0) 0 1),(9,V.lst 3 (itl a)),(10,iv (↑(itl a).length:Int)),(11,iv (IntKind.i64.wrap ((↑k:Int)+(1:Int))))]) (Hp.mk [(0,O.rows 3 true [[iv n,V.raw (Value.int IntKind.u8 n_1),iv n_2]])] 1 []))) (J (St.mk (mkT [(1,V.lst 3 (itl o)),(6,nilS),(9,V.lst 3 (itl a)),(10,iv (↑(itl a).length:Int)),(11,iv (IntKind.i64.wrap ((↑k:Int)+(1:Int))))]) (Hp.mk [] 0 [])))))) (ifB (decide (n_2<(0:Int))) (R (V.tup [nilS,bv false])) (ifB (decide (n_2 > (0:Int))) (J (St.mk (mkT [(1,V.lst 3 (itl o)),(6,V.sl (Id.p 0) 0 1),(9,V.lst 3 (itl a)),(10,iv (↑(itl a).length:Int)),(11,iv (IntKind.i64.wrap ((↑k:Int)+(1:Int))))]) (Hp.mk [(0,O.rows 3 true [[iv n,V.raw (Value.int IntKind.u8 n_1),iv n_2]])] 1 []))) (J (St.mk (mkT [(1,V.lst 3 (itl o)),(6,nilS),(9,V.lst 3 (itl a)),(10,iv (↑(itl a).length:Int)),(11,iv (IntKind.i64.wrap ((↑k:Int)+(1:Int))))]) (Hp.mk [] 0 [])))))) (R (V.tup [nilS,bv ((↑(itl o).length:Int)==(0:Int))]))) (by kernel_rfl) ?_
   rw [itl_length,itl_length]
   refine ifB_f (by simpa using hlt) ?_
   have:((o.length:Int)==0)=o.isEmpty:=by cases o <;> simp; omega
   rw [this]; exact h
  ·rw [sh43_b hl]
   refine see (p:=ifB (decide ((↑k:Int)<(↑(itl a).length:Int))) (onSome (itl a)[k]? fun row=>onCons (List.drop 0 row) fun u r=>onIntK IntKind.i64 u fun n=>onCons r fun u r=>onIntK IntKind.u8 u fun n_1=>onCons r fun u r=>onIntK IntKind.i64 u fun n_2=>ifB (decide ((↑(itl o).length:Int) > (0:Int))) (onSome (itl o)[0]? fun row=>onCons (List.drop 0 row) fun u r=>onIntK IntKind.i64 u fun n_3=>onCons r fun u r=>onIntK IntKind.u8 u fun n_4=>onCons r fun u r=>onIntK IntKind.i64 u fun n_5=>ifB (n_3==n&&(fun b=>n_4==n_1&&b) true) (onSome (itl o)[0]? fun row=>onSome row[2]? fun v=>onIntK IntKind.i64 v fun n_6=>need ((itl o).length≤(itl o).length) (need (1≤(itl o).length) (ifB (decide (IntKind.i64.wrap (n_2 - n_6)<(0:Int))) (R (V.tup [nilS,bv false])) (ifB (decide (IntKind.i64.wrap (n_2 - n_6) > (0:Int))) (need ((l.length+1) * 24≤140737488355328) (J (St.mk (mkT [(1,V.lst 3 (sub (itl o) 1 ((itl o).length - 1))),(6,V.sl (Id.p 0) 0 (l.length+1)),(9,V.lst 3 (itl a)),(10,iv (↑(itl a).length:Int)),(11,iv (IntKind.i64.wrap ((↑k:Int)+(1:Int))))]) (Hp.mk [(0,O.rows 3 true (List.take l.length (itl l)++[[iv n,V.raw (Value.int IntKind.u8 n_1),iv (IntKind.i64.wrap (n_2 - n_6))]]))] 1 [])))) (J (St.mk (mkT [(1,V.lst 3 (sub (itl o) 1 ((itl o).length - 1))),(6,V.sl (Id.p 0) 0 l.length),(9,V.lst 3 (itl a)),(10,iv (↑(itl a).length:Int)),(11,iv (IntKind.i64.wrap ((↑k:Int)+(1:Int))))]) (Hp.mk [(0,O.rows 3 true (itl l))] 1 []))))))) (ifB (decide (n_2<(0:Int))) (R (V.tup [nilS,bv false])) (ifB (decide (n_2 > (0:Int))) (need ((l.length+1) * 24≤140737488355328) (J (St.mk (mkT [(1,V.lst 3 (itl o)),(6,V.sl (Id.p 0) 0 (l.length+1)),(9,V.lst 3 (itl a)),(10,iv (↑(itl a).length:Int)),(11,iv (IntKind.i64.wrap ((↑k:Int)+(1:Int))))]) (Hp.mk [(0,O.rows 3 true (List.take l.length (itl l)++[[iv n,V.raw (Value.int IntKind.u8 n_1),iv n_2]]))] 1 [])))) (J (St.mk (mkT [(1,V.lst 3 (itl o)),(6,V.sl (Id.p 0) 0 l.length),(9,V.lst 3 (itl a)),(10,iv (↑(itl a).length:Int)),(11,iv (IntKind.i64.wrap ((↑k:Int)+(1:Int))))]) (Hp.mk [(0,O.rows 3 true (itl l))] 1 [])))))) (ifB (decide (n_2<(0:Int))) (R (V.tup [nilS,bv false])) (ifB (decide (n_2 > (0:Int))) (need ((l.length+1) * 24≤140737488355328) (J (St.mk (mkT [(1,V.lst 3 (itl o)),(6,V.sl (Id.p 0) 0 (l.length+1)),(9,V.lst 3 (itl a)),(10,iv (↑(itl a).length:Int)),(11,iv (IntKind.i64.wrap ((↑k:Int)+(1:Int))))]) (Hp.mk [(0,O.rows 3 true (List.take l.length (itl l)++[[iv n,V.raw (Value.int IntKind.u8 n_1),iv n_2]]))] 1 [])))) (J (St.mk (mkT [(1,V.lst 3 (itl o)),(6,V.sl (Id.p 0) 0 l.length),(9,V.lst 3 (itl a)),(10,iv (↑(itl a).length:Int)),(11,iv (IntKind.i64.wrap ((↑k:Int)+(1:Int))))]) (Hp.mk [(0,O.rows 3 true (itl l))] 1 [])))))) (R (V.tup [V.lst 3 (sub (itl l) 0 l.length),bv ((↑(itl o).length:Int)==(0:Int))]))) (by kernel_rfl) ?_
   rw [itl_length,itl_length]
   refine ifB_f (by simpa using hlt) ?_
   have:((o.length:Int)==0)=o.isEmpty:=by cases o <;> simp; omega
   rw [this,← itl_length l,sub_all,← lsI_b hl]; exact h
def bl8 (s:Nat):List Nat:=(List.range 8).filter fun i=>s.testBit i
theorem bl8_step : ∀ s,s<256→s≠0→bl8 s=fi s::bl8 (wo s (fi s)):=by decide +kernel
theorem wo_256 {s n:Nat} (h:s<256):wo s n<256:=by have:=wo_le s n; omega
theorem nn_length (l:List Nat):(nn l).length=l.length:=by simp [nn]
theorem nn_take (l:List Nat):List.take l.length (nn l)=nn l:=by rw [← nn_length]; exact List.take_length
theorem sh90_b {s:Nat} {l:List Nat} (h:l≠[]):sh90 (s,l)=sh90b s l:=by cases l with | nil=>exact (h rfl).elim | cons x r=>rfl
theorem lsN_b {l:List Nat} (h:l≠[]):lsN l = .lst 1 (nn l):=by cases l with | nil=>exact (h rfl).elim | cons x r=>rfl
theorem list90 {s:Nat} {R:V→Prop} (hs:s<256) (h:R (lsN (bl8 s))):K0G Try.prog glX 72 [sv s] R:=by
 refine K0_of_WY0 hmX hcM 300 Try.func72 (see (p:=La 0 [(0:Tmp),(3:Tmp)] (WY Try.prog cfM 295 (Env.mk (Bs.mk 0 []) 0 none 16 72 0) (cdAt [1,1,0,0,0] (bodyOf Try.f72))) (Qblk 0 (Qthen (WY Try.prog cfM 297 (Env.mk (Bs.mk 0 []) 0 none 16 72 0) (cdAt [1,1,1] (bodyOf Try.f72)) (QendX Try.prog Try.f72 fun v h=>R (frzW h v))) (QendX Try.prog Try.f72 fun v h=>R (frzW h v)))) (St.mk (mkT [(0,V.raw (Value.int IntKind.u8 (↑s:Int))),(3,nilS)]) (Hp.mk [] 0 []))) (by kernel_rfl) ?_)
 refine La.of (σ:=Nat×List Nat) sh90 (fun s' => s'.1<256∧bl8 s=s'.2++bl8 s'.1) (fun s' => s'.1) (s,[]) (by kernel_rfl) ⟨hs,by simp⟩ ?_
 rintro ⟨t,l⟩ ⟨h1,h2⟩ J hJ
 simp only at h1 h2
 have hll:l.length≤8:=by
  have e:(bl8 s).length≤8:=by have:=List.length_filter_le (fun i=>s.testBit i) (List.range 8); simpa [bl8] using this
  rw [h2,List.length_append] at e
  omega
 have hz:t=0→R (lsN l):=by
  rintro rfl
  have:bl8 0=[]:=by decide
  rw [this,List.append_nil] at h2
  rw [← h2]; exact h
 have go:t≠0→J (sh90 (wo t (fi t),l++[fi t])):=fun ht=>hJ (_,_) ⟨wo_256 h1,by simp only; rw [h2,bl8_step t h1 ht,List.append_assoc]; rfl⟩ (wo_lt (fi_bit t h1 ht).2)
 by_cases hl:l=[]
 ·subst hl
  refine see (p:=ifB ((↑t:Int) != (0:Int)) (K0G Try.prog glX 82 [V.raw (Value.int IntKind.u8 (↑t:Int))] fun v=>onIntK IntKind.i64 v fun n=>K0G Try.prog glX 82 [V.raw (Value.int IntKind.u8 (↑t:Int))] fun v=>onIntK IntKind.i64 v fun n_1=>K0G Try.prog glX 116 [V.raw (Value.int IntKind.u8 (↑t:Int)),iv n_1] fun v=>onIntK IntKind.u8 v fun n_2=>J (St.mk (mkT [(0,V.raw (Value.int IntKind.u8 n_2)),(3,V.sl (Id.p 0) 0 1)]) (Hp.mk [(0,O.rows 1 true [[iv n]])] 1 []))) (R nilS)) (by kernel_rfl) ?_
  refine ifB_mk (fun hc=>?_) (fun hc=>hz (by simpa using hc))
  have ht:t≠0:=by simpa using hc
  refine first45 h1 (onIntK_iv (first45 h1 (onIntK_iv (without70 h1 (fi_bit t h1 ht).1 (onIntK_u8 ?_)))))
  exact hJ' (by simp [sh90,sh90b,nn,sv,u8v]) (go ht)
 ·rw [sh90_b hl]
  refine see (p:=ifB ((↑t:Int) != (0:Int)) (K0G Try.prog glX 82 [V.raw (Value.int IntKind.u8 (↑t:Int))] fun v=>onIntK IntKind.i64 v fun n=>need ((l.length+1) * 8≤140737488355328) (K0G Try.prog glX 82 [V.raw (Value.int IntKind.u8 (↑t:Int))] fun v=>onIntK IntKind.i64 v fun n_1=>K0G Try.prog glX 116 [V.raw (Value.int IntKind.u8 (↑t:Int)),iv n_1] fun v=>onIntK IntKind.u8 v fun n_2=>J (St.mk (mkT [(0,V.raw (Value.int IntKind.u8 n_2)),(3,V.sl (Id.p 0) 0 (l.length+1))]) (Hp.mk [(0,O.rows 1 true (List.take l.length (nn l)++[[iv n]]))] 1 [])))) (R (V.lst 1 (sub (nn l) 0 l.length)))) (by kernel_rfl) ?_
  rw [nn_take]
  refine ifB_mk (fun hc=>?_) (fun hc=>?_)
  ·have ht:t≠0:=by simpa using hc
   refine first45 h1 (onIntK_iv (need_mk ⟨by omega,first45 h1 (onIntK_iv (without70 h1 (fi_bit t h1 ht).1 (onIntK_u8 ?_)))⟩))
   have g:=go ht
   rw [sh90_b (by simp)] at g
   exact hJ' (by simp [sh90b,nn,sv,u8v]) g
  ·have:=hz (by simpa using hc)
   rw [← nn_length l,sub_all,← lsN_b hl]; exact this
end Go.Proofs.Ytmddjopahcbefaa
