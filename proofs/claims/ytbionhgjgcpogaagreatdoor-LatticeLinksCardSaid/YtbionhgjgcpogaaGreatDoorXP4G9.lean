/- A part of the proof. -/
import Derived.Test.YtbionhgjgcpogaaGreatDoorProg
import Derived.Test.YtbionhgjgcpogaaGreatDoorXP4G1
import Derived.Test.YtbionhgjgcpogaaGreatDoorXP4G7
import Derived.Test.YtbionhgjgcpogaaGreatDoorXP4G8
namespace Go.Proofs.YtbionhgjgcpogaaGreatDoor.Clean
noncomputable def WY0 (P:Program) (cfg:Cfg) (fuel:Nat) (f:FuncId) (fn:Func) (args:List V) (R:V→Prop):Prop :=
 match fn.body with
 | some c=>guardB (Nat.ble args.length fn.ntmps&&Nat.ble args.length 1000) (WY P cfg fuel ⟨⟨0,[]⟩,0,none,fn.ntmps,f,0⟩ c (QendX P fn fun v h=>R (frzW h v)) ⟨start args,⟨[],0,[]⟩⟩)
 | none=>False
theorem K0_of_WY0 {P:Program} (hm:P.follows .mixedOrders=true) {cfg:Cfg} (hcf:cfg.ok P) (fuel:Nat) {f:FuncId} {fn:Func} (hf:P.funcs[f]? = some fn) {args:List V} {R:V→Prop} (h:WY0 P cfg fuel f fn args R):K0G P cfg.glob f args R:=by
 unfold WY0 at h
 split at h
 ·rename_i c hc
  rw [guardB_iff] at h
  exact K0_of_WY hm hcf fuel hf hc h.1 h.2
 ·exact h.elim
theorem La.of {nb:Nat} {slots:List Tmp} {B:Post→St→Prop} {Q:Post} {st:St} {σ:Type} (sh:σ→St) (I:σ→Prop) (μ:σ→Nat) (s0:σ) (h0:st=sh s0) (hI:I s0)
  (round : ∀ s,I s → ∀ J:St→Prop,(∀ s', I s' → μ s' < μ s→J (sh s'))→B (Qla nb slots J Q) (sh s)):La nb slots B Q st:=by
 refine ⟨fun J hJ=>?_⟩
 subst h0
 have key : ∀ n s,μ s<n→I s→J (sh s):=by
  intro n
  induction n with
  | zero=>intro s h; omega
  | succ n ih =>
   intro s hs hI
   exact hJ _ (round s hI J fun s' hI' hlt=>ih s' (by omega) hI')
 exact key _ s0 (Nat.lt_succ_self _) hI
def inN:List Nat→Nat→Bool
 | [],_=>false
 | a::r,x=>Nat.beq a x || inN r x
def slotsOf:List (Nat×Nat×List Tmp)→FuncId→Nat→Option (List Tmp)
 | [],_,_=>none
 | (f,c,l)::r,g,d=>bif Nat.beq f g&&Nat.beq c d then some l else slotsOf r g d
abbrev Us:=List (List (List V))
def back1:List (Id×Nat)→Nat→Tr
 | [],_ => .drop
 | (a,b)::r,i=>bif b.beq i then .ren a else back1 r i
def backT (bs:List (Id×Nat)) (n m:Nat):Id→Tr
 | .p i=>bif Nat.blt i n then back1 bs i else .ren (.p (m+(i - n)))
 | .m _ _ => .drop
noncomputable def backO (τ:Id→Tr):O→O
 | .rows s true es => .rows s true es
 | .rows s false es => .rows s false (es.map (trL τ))
 | .mp es => .mp (es.map fun kv=>(kv.1.tr τ,kv.2.tr τ))
 | .lp q => .lp (q.mapV (V.tr τ))
 | .it x n seen => .it (x.tr τ) n seen
noncomputable def backBs (τ:Id→Tr):List (Nat×O)→List (Nat×O)
 | []=>[]
 | (i,o)::r=>match τ (.p i) with
  | .ren (.p b)=>(b,backO τ o)::backBs τ r
  | _=>backBs τ r
def pureOf:Option O→Option (List (List V))
 | some (.rows _ true es)=>some es
 | _=>none
def mergeFs (h1:Hp):List (Id×Nat)→List (Nat×Fam)→List (Nat×Fam)
 | [],fs=>fs
 | (.m B k,i)::r,fs=>setF (mergeFs h1 r fs) B k (pureOf (getB h1.bs i))
 | (.p _,_)::r,fs=>mergeFs h1 r fs
def mfit (h:Hp) (h1:Hp) (bs:List (Id×Nat)):Bool:=h1.fs.isEmpty&&bs.all fun p=>match p.1 with
 | .p _=>true
 | .m B _=>match getF h.fs B with
  | some f=>match getB h1.bs p.2 with
   | some (.rows s true _)=>s.beq f.s
   | some _=>false
   | none=>true
  | none=>false
noncomputable def mergeH (h:Hp) (kp:Keep) (h1:Hp):Hp:=⟨backBs (backT kp.blocks kp.nxt h.nxt) h1.bs++(delAll h (kp.blocks.map (·.1))).bs,h.nxt+(h1.nxt - kp.nxt),mergeFs h1 kp.blocks h.fs⟩
noncomputable def lentH (h:Hp) (kp:Keep):Hp:=⟨keepBs (renOf kp.blocks) [] h kp.blocks,kp.nxt,[]⟩
def bsOK (h:Hp):Bool:=h.bs.all fun p=>Nat.blt p.1 h.nxt
def sameV (v w:V) (k:Prop):Prop:=v=w∧k
def typedR (P:Program) (t:Option TypeId) (v:V) (k:V→Prop):Prop:=match t with | some t=>typedT P false t v k | none=>k v
set_option linter.unusedSimpArgs false
set_option linter.unusedVariables false
theorem renOf_mem : ∀ {bs:List (Id×Nat)} {a:Id} {i:Nat},nodupI (bs.map (·.1))=true→(a,i)∈bs→renOf bs a = .ren (.p i)
 | [],a,i,_,h=>by simp at h
 | (c,j)::r,a,i,hn,h=>by
  simp only [renOf,Id.cond_beq]
  by_cases hc:c=a
  ·subst hc
   rw [if_pos rfl]
   have:=nodupI_inj (f:=fun p:Id×Nat=>p.1) hn h (List.mem_cons_self) rfl
   simp at this
   rw [this]
  ·rw [if_neg hc]
   refine renOf_mem ?_ ((List.mem_cons.1 h).resolve_left (fun he=>hc (by simp at he; exact he.1.symm)))
   simp only [List.map_cons,nodupI,Bool.and_eq_true] at hn
   exact hn.2
theorem renOf_none {bs:List (Id×Nat)} {a:Id} (h : ∀ i,(a,i) ∉ bs):renOf bs a = .drop:=by
 rcases renOf_cases bs a with h' | ⟨i,_,hm⟩
 ·exact h'
 ·exact (h i hm).elim
theorem back1_mem : ∀ {bs:List (Id×Nat)} {a:Id} {i:Nat},nodupB (bs.map (·.2))=true→(a,i)∈bs→back1 bs i = .ren a
 | [],a,i,_,h=>by simp at h
 | (c,j)::r,a,i,hn,h=>by
  simp only [back1,cond_beq]
  by_cases hc:j=i
  ·subst hc
   rw [if_pos rfl]
   have:=nodupB_inj (f:=fun p:Id×Nat=>p.2) hn h (List.mem_cons_self) rfl
   simp at this
   rw [this]
  ·rw [if_neg hc]
   refine back1_mem ?_ ((List.mem_cons.1 h).resolve_left (fun he=>hc (by simp at he; exact he.2.symm)))
   simp only [List.map_cons,nodupB,Bool.and_eq_true] at hn
   exact hn.2
theorem back1_cases : ∀ (bs:List (Id×Nat)) (i:Nat),back1 bs i = .drop ∨ ∃ a,back1 bs i = .ren a∧(a,i)∈bs
 | [],i => .inl rfl
 | (c,j)::r,i=>by
  simp only [back1,cond_beq]
  by_cases hc:j=i
  ·subst hc; rw [if_pos rfl]; exact .inr ⟨c,rfl,by simp⟩
  ·rw [if_neg hc]
   rcases back1_cases r i with h | ⟨a,h1,h2⟩
   ·exact .inl h
   ·exact .inr ⟨a,h1,by simp [h2]⟩
theorem backBs_get {τ:Id→Tr} {i b:Nat} (hi:τ (.p i) = .ren (.p b)) (hinj : ∀ j,τ (.p j) = .ren (.p b)→j=i) : ∀ (l:List (Nat×O)),getB (backBs τ l) b=(getB l i).map (backO τ)
 | []=>rfl
 | (k,o)::r=>by
  have ih:=backBs_get hi hinj r
  rw [getB_cons]
  by_cases hk:k=i
  ·subst hk
   simp [backBs,hi,getB_cons]
  ·rw [if_neg hk]
   simp only [backBs]
   split
   ·rename_i b' hb'
    rw [getB_cons,if_neg (fun he:b' = b=>hk (hinj k (by rw [← he]; exact hb'))),ih]
   ·exact ih
theorem backBs_none {τ:Id→Tr} {b:Nat} (h : ∀ j,τ (.p j) ≠ .ren (.p b)) : ∀ (l:List (Nat×O)),getB (backBs τ l) b=none
 | []=>rfl
 | (k,o)::r=>by
  have ih:=backBs_none h r
  simp only [backBs]
  split
  ·rename_i b' hb'
   rw [getB_cons,if_neg (fun he:b' = b=>h k (by rw [← he]; exact hb')),ih]
  ·exact ih
theorem getB_memM : ∀ {l:List (Nat×O)} {b:Nat} {o:O},getB l b=some o→(b,o)∈l
 | [],b,o,h=>by simp [getB] at h
 | (k,o')::r,b,o,h=>by
  rw [getB_cons] at h
  by_cases hk:k=b
  ·rw [if_pos hk] at h; simp at h; subst hk; subst h; simp
  ·rw [if_neg hk] at h; exact List.mem_cons_of_mem _ (getB_memM h)
theorem get_delAll : ∀ (l:List Id) (h:Hp) (b:Id),(delAll h l).get b=if b∈l then none else h.get b
 | [],h,b=>by simp [delAll]
 | c::r,h,b=>by
  simp only [delAll]
  rw [get_delAll r,Hp.get_del]
  by_cases hr:b∈r
  ·simp [hr]
  ·by_cases hc:b=c
   ·simp [hc]
   ·simp [hr,hc]
def getM (fs:List (Nat×Fam)) (B k:Nat):Option (Nat×List (List V)):=match getF fs B with | some f=>(memb f.ms k).map fun es=>(f.s,es) | none=>none
theorem get_getM {h:Hp} {B k:Nat}:h.get (.m B k)=(getM h.fs B k).map fun p => .rows p.1 true p.2:=by
 simp only [Hp.get,getM]
 cases getF h.fs B with
 | none=>rfl
 | some f=>simp only; cases memb f.ms k <;> rfl
theorem getM_setF {fs:List (Nat×Fam)} {B k:Nat} {x:Option (List (List V))} {B' k' : Nat} (hk:k<famLen fs B):getM (setF fs B k x) B' k' = if B' = B∧k' = k then (match getF fs B with | some f=>x.map fun es=>(f.s,es) | none=>none) else getM fs B' k' := by
 unfold getM
 rw [getF_setF]
 by_cases hB:B' = B
 ·subst hB
  rw [if_pos rfl]
  cases hf:getF fs B' with
  | none=>simp
  | some f =>
   have hk:k<f.ms.length:=by simpa [famLen,hf] using hk
   simp only [Option.map_some,memb_set _ _ _ _ hk,true_and]
   by_cases hkk:k' = k
   ·simp [hkk]
   ·simp [hkk]
 ·simp [hB]
theorem mergeFs_len {h1:Hp} : ∀ (bs:List (Id×Nat)) (fs:List (Nat×Fam)) (B:Nat),famLen (mergeFs h1 bs fs) B=famLen fs B
 | [],fs,B=>rfl
 | (.m _ _,i)::r,fs,B=>by simp only [mergeFs]; rw [setF_cnt]; exact mergeFs_len r fs B
 | (.p _,_)::r,fs,B=>by simp only [mergeFs]; exact mergeFs_len r fs B
theorem mergeFs_s {h1:Hp} : ∀ (bs:List (Id×Nat)) (fs:List (Nat×Fam)) (B:Nat),(getF (mergeFs h1 bs fs) B).map (·.s)=(getF fs B).map (·.s)
 | [],fs,B=>rfl
 | (.m B0 k,i)::r,fs,B=>by
  simp only [mergeFs]
  rw [getF_setF,← mergeFs_s r fs B]
  by_cases hB:B=B0
  ·subst hB
   rw [if_pos rfl]
   cases getF (mergeFs h1 r fs) B <;> rfl
  ·rw [if_neg hB]
 | (.p _,_)::r,fs,B=>by simp only [mergeFs]; exact mergeFs_s r fs B
theorem mergeFs_get {h1:Hp} {fs:List (Nat×Fam)} : ∀ {bs:List (Id×Nat)},nodupI (bs.map (·.1))=true→(∀ B k i,(Id.m B k,i)∈bs→k<famLen fs B) → ∀ (B k:Nat),
  (∀ i,(Id.m B k,i)∈bs→getM (mergeFs h1 bs fs) B k=match getF fs B with | some f=>(pureOf (getB h1.bs i)).map fun es=>(f.s,es) | none=>none) ∧
  ((∀ i,(Id.m B k,i) ∉ bs)→getM (mergeFs h1 bs fs) B k=getM fs B k)
 | [],_,_,B,k=>⟨fun i hm=>by simp at hm,fun _=>rfl⟩
 | (.p a,j)::r,hn,hl,B,k=>by
  simp only [List.map_cons,nodupI,Bool.and_eq_true] at hn
  obtain ⟨ih1,ih2⟩:=mergeFs_get (h1:=h1) (fs:=fs) (bs:=r) hn.2 (fun B k i hm=>hl B k i (by simp [hm])) B k
  simp only [mergeFs]
  exact ⟨fun i hm=>ih1 i (by simpa using hm),fun hn=>ih2 fun i hm=>hn i (by simp [hm])⟩
 | (.m B0 k0,j)::r,hn,hl,B,k=>by
  have hn0:=hn
  simp only [List.map_cons,nodupI,Bool.and_eq_true,Bool.not_eq_true', List.any_eq_false,List.mem_map,forall_exists_index,and_imp,forall_apply_eq_imp_iff₂] at hn
  obtain ⟨ih1,ih2⟩:=mergeFs_get (h1:=h1) (fs:=fs) (bs:=r) hn.2 (fun B k i hm=>hl B k i (by simp [hm])) B k
  have hlen:k0<famLen (mergeFs h1 r fs) B0:=by rw [mergeFs_len]; exact hl B0 k0 j (by simp)
  simp only [mergeFs]
  rw [getM_setF hlen]
  by_cases he:B=B0∧k=k0
  ·obtain ⟨rfl,rfl⟩:=he
   rw [if_pos ⟨rfl,rfl⟩]
   refine ⟨fun i hm=>?_,fun hno=>(hno j (by simp)).elim⟩
   have hij:i=j:=by
    simp only [List.mem_cons,Prod.mk.injEq,true_and] at hm
    rcases hm with hm | hm
    ·exact hm
    ·have:=hn.1 _ hm
     simp at this
   subst hij
   have hs:=mergeFs_s (h1:=h1) r fs B
   cases hg:getF fs B with
   | none =>
    rw [hg] at hs
    cases hg' : getF (mergeFs h1 r fs) B with
    | none=>rfl
    | some f=>rw [hg'] at hs; simp at hs
   | some f =>
    rw [hg] at hs
    cases hg' : getF (mergeFs h1 r fs) B with
    | none=>rw [hg'] at hs; simp at hs
    | some f' => rw [hg'] at hs; simp at hs; simp only [hs]
  ·rw [if_neg he]
   refine ⟨fun i hm=>ih1 i ?_,fun hno=>ih2 fun i hm=>hno i (by simp [hm])⟩
   simp only [List.mem_cons,Prod.mk.injEq,Id.m.injEq] at hm
   exact hm.resolve_left fun h=>he h.1
def mergeNu (ν ν1:Nu) (bs:List (Id×Nat)) (n:Nat) (hle:n≤ν1.nxt) (hin : ∀ p∈bs,p.1.lt ν.nxt ν.cnt) (hz : ∀ B,ν1.cnt B=0):Nu where
 at_ b:=match b with
  | .p a=>if a<ν.nxt then (match renOf bs (.p a) with | .ren i=>ν1.at_ i | _=>ν.at_ (.p a)) else ν1.at_ (.p (n+(a - ν.nxt)))
  | .m B k=>match renOf bs (.m B k) with | .ren i=>ν1.at_ i | _=>ν.at_ (.m B k)
 nxt:=ν.nxt+(ν1.nxt - n)
 cnt:=ν.cnt
 lt b x h:=by
  cases b with
  | p a =>
   show a<ν.nxt+(ν1.nxt - n)
   by_cases hb:a<ν.nxt
   ·omega
   ·simp only [hb,if_false] at h
    have:n+(a - ν.nxt)<ν1.nxt:=ν1.lt _ _ h
    omega
  | m B k =>
   show k<ν.cnt B
   simp only at h
   rcases renOf_cases bs (.m B k) with h0 | ⟨i,h0,hm⟩
   ·rw [h0] at h
    exact ν.lt _ _ h
   ·exact hin _ hm
 ph b:=match b with
  | .p a=>if a<ν.nxt then (match renOf bs (.p a) with | .ren i=>ν1.ph i | _=>ν.ph (.p a)) else ν1.ph (.p (n+(a - ν.nxt)))
  | .m B k=>match renOf bs (.m B k) with | .ren i=>ν1.ph i | _=>ν.ph (.m B k)
 phx b x h:=by
  cases b with
  | p a =>
   simp only at h ⊢
   by_cases hb:a<ν.nxt
   ·rw [if_pos hb] at h ⊢
    split at h
    ·exact ν1.phx _ _ h
    ·exact ν.phx _ _ h
   ·rw [if_neg hb] at h ⊢; exact ν1.phx _ _ h
  | m B k =>
   simp only at h ⊢
   split at h
   ·exact ν1.phx _ _ h
   ·exact ν.phx _ _ h
theorem obl_back {F:Nat→Prop} {w:World} {ν1 ν2:Nu} {τ:Id→Tr} (tr:TrOK F F w ν1 ν2 τ) {r s n:Nat} {o:O} (ho:Obl F w ν1 r s n o):Obl F w ν2 r s n (backO τ o):=by
 cases o with
 | lp q =>
  obtain ⟨rec,k1,k2⟩:=ho
  exact ⟨rec,k1,k2.map (rep_tr (fun _ h=>h) tr)⟩
 | it x m seen =>
  obtain ⟨mr,k1,k2⟩:=ho
  exact ⟨mr,k1,rep_tr (fun _ h=>h) tr _ _ k2⟩
 | mp es =>
  obtain ⟨ents,k1,k2,k3⟩:=ho
  refine ⟨ents,by rw [List.length_map]; exact k1,by simp [k2],fun i kv hi=>?_⟩
  rw [List.getElem?_map,Option.map_eq_some_iff] at hi
  obtain ⟨kv0,hi0,rfl⟩:=hi
  obtain ⟨e,e1,e2,e3,e4⟩:=k3 i kv0 hi0
  exact ⟨e,e1,e2,rep_tr (fun _ h=>h) tr _ _ e3,rep_tr (fun _ h=>h) tr _ _ e4⟩
 | rows s' p es =>
  obtain ⟨rfl,z2,c,el,z3,z4,z5⟩:=ho
  cases p with
  | true=>exact ⟨rfl,z2,c,el,z3,z4,z5⟩
  | false =>
   refine ⟨rfl,by simpa using z2,c,el,z3,z4,?_⟩
   rw [rowsC_iff] at z5 ⊢
   intro j row hrow
   rw [List.getElem?_map,Option.map_eq_some_iff] at hrow
   obtain ⟨row0,hrow0,rfl⟩:=hrow
   obtain ⟨k1,k2⟩:=z5 j row0 hrow0
   refine ⟨by rw [trL_length]; exact k1,fun l u hu=>?_⟩
   rw [trL_get,Option.map_eq_some_iff] at hu
   obtain ⟨v0,hv0,rfl⟩:=hu
   obtain ⟨y,k3,k4,k5⟩:=k2 l v0 hv0
   exact ⟨y,k3,k4,rep_tr (fun _ h=>h) tr v0 y k5⟩
theorem K_frame {P:Program} {G:Nat→Option (List V)} {f:FuncId} {args:List V} {h:Hp} {kp:Keep} {k:V→Hp→Prop} (hkp:kp=lentOf h args) (hok:kp.ok=true) (hbs:bsOK h=true)
  (hb:K P G f (trL (renOf kp.blocks) args) (lentH h kp) (fun _=>true) (fun v h1=>mfit h h1 kp.blocks=true∧k (v.tr (backT kp.blocks kp.nxt h.nxt)) (mergeH h kp h1))):K P G f args h (fun b=>kp.blocks.any fun p=>p.1.beq b) k:=by
 intro ν F w xs hh hG hl
 have hnils:kp.nils=[]:=by rw [hkp]; rfl
 have hpu:kp.pu=[]:=by rw [hkp]; rfl
 have hfm:kp.fams=[]:=by rw [hkp]; rfl
 obtain ⟨hn1,hn12,hblt,_,_,_⟩:=Keep.ok_iff.1 hok
 have hn2:=nodupB_right hn12
 have hblt : ∀ p∈kp.blocks,p.2<kp.nxt:=fun p hp=>blt_of (hblt p hp)
 obtain ⟨kh,ko⟩:=keep_heap hok hh
 rw [hnils,hpu,hfm,ren_nofams hfm] at kh
 have hl' := repL_tr (fun _ h=>h) (keep_tr hok hh) _ _ hl
 rw [ren_nofams hfm] at hl'
 have hin : ∀ b o,h.get b=some o→b.lt ν.nxt ν.cnt:=fun b o ho=>by
  cases b with
  | p b =>
   have:=List.all_eq_true.1 hbs _ (getB_memM ho)
   show b<ν.nxt
   rw [hh.nxt]; exact blt_of this
  | m B k =>
   obtain ⟨f,es,h1,h2,_⟩:=Hp.get_m ho
   show k<ν.cnt B
   rw [hh.cnt B]
   simp only [famLen,h1]
   exact memb_lt h2
 refine (hb _ F w xs (by simpa [nilBs,lentH,keepFs] using kh) hG hl').mono fun e w' ⟨x,v,ν1,F1,h1,g1,⟨gfit0,g2⟩,g4,g5,g6,_⟩=>?_
 have hnx:(kpNu kp hok h ν).nxt=kp.nxt:=rfl
 have hz0 : ∀ B,(kpNu kp hok h ν).cnt B=0:=fun B=>by
  show kp.cnt h B=0
  simp [Keep.cnt,hfm]
 have gfit1:=(Bool.and_eq_true _ _ ▸ gfit0:h1.fs.isEmpty=true∧_)
 have gfit:=gfit1.2
 have hz : ∀ B,ν1.cnt B=0:=cnt_none g4 gfit1.1
 have hle:kp.nxt≤ν1.nxt:=g6.nxt
 have hp1 : ∀ {b:Id} {y},ν1.at_ b=some y → ∃ i,b = .p i:=fun {b y} hy=>by
  have:=ν1.lt _ _ hy
  cases b with
  | p i=>exact ⟨i,rfl⟩
  | m B k =>
   have:k<ν1.cnt B:=this
   rw [hz B] at this
   omega
 have hhas : ∀ a i,(a,i)∈kp.blocks→h.has a=true:=fun a i hm=>by
  rw [hkp] at hm
  simp only [lentOf] at hm
  have:=(List.mem_zipIdx hm)
  have hm' : a∈(reach 200 h (refsL args) []).filter fun b=>h.has b:=by
   rw [this.2.2]; exact List.getElem_mem _
  exact (List.mem_filter.1 hm').2
 have hfst : ∀ a i,(a,i)∈kp.blocks→a.lt ν.nxt ν.cnt:=fun a i hm=>by
  obtain ⟨o,ho⟩:=has_iff.1 (hhas a i hm)
  exact hin a o ho
 let σ:=backT kp.blocks kp.nxt h.nxt
 have σlo : ∀ i a,(a,i)∈kp.blocks→σ (.p i) = .ren a:=fun i a hm=>by
  have:Nat.blt i kp.nxt=true:=by have:=hblt _ hm; exact Nat.ble_eq_true_of_le this
  simp only [σ,backT,this,cond_true]
  exact back1_mem hn2 hm
 have σhi : ∀ i,kp.nxt≤i→σ (.p i) = .ren (.p (ν.nxt+(i - kp.nxt))):=fun i hi=>by
  have:Nat.blt i kp.nxt=false:=by
   cases hq:Nat.blt i kp.nxt with
   | false=>rfl
   | true=>have:=blt_of hq; omega
  simp only [σ,backT,this,cond_false]
  rw [← hh.nxt]
 have σcase : ∀ j b,σ j = .ren b → ∃ i,j = .p i∧((i<kp.nxt∧(b,i)∈kp.blocks∧b.lt ν.nxt ν.cnt)∨(kp.nxt≤i∧b = .p (ν.nxt+(i - kp.nxt)))):=fun j b hs=>by
  cases j with
  | m B k=>simp only [σ,backT] at hs; cases hs
  | p i =>
  refine ⟨i,rfl,?_⟩
  by_cases hi:i<kp.nxt
  ·left
   have:Nat.blt i kp.nxt=true:=Nat.ble_eq_true_of_le hi
   simp only [σ,backT,this,cond_true] at hs
   rcases back1_cases kp.blocks i with h0 | ⟨a,h0,hm⟩
   ·rw [h0] at hs; cases hs
   ·rw [h0] at hs; cases hs
    exact ⟨hi,hm,hfst _ _ hm⟩
  ·right
   rw [σhi i (by omega)] at hs
   cases hs
   exact ⟨by omega,rfl⟩
 have nlt : ∀ {n:Nat},ν.nxt≤n → ¬ (Id.p n).lt ν.nxt ν.cnt:=fun {n} hn hl=>by
  have:n<ν.nxt:=hl
  omega
 have σinj : ∀ i j b,σ i = .ren b→σ j = .ren b→j=i:=fun i j b hi hj=>by
  obtain ⟨i0,rfl,ci⟩:=σcase i b hi
  obtain ⟨j0,rfl,cj⟩:=σcase j b hj
  rcases ci with ⟨_,m1,l1⟩ | ⟨l1,e1⟩ <;> rcases cj with ⟨_,m2,l2⟩ | ⟨l2,e2⟩
  ·have:=nodupI_inj (f:=fun p:Id×Nat=>p.1) hn1 m2 m1 rfl
   simpa using this
  ·rw [e2] at l1; exact (nlt (by omega) l1).elim
  ·rw [e1] at l2; exact (nlt (by omega) l2).elim
  ·rw [e1] at e2; simp at e2; rw [show j0=i0 by omega]
 let ν2:=mergeNu ν ν1 kp.blocks kp.nxt hle (fun p hp=>hfst p.1 p.2 hp) hz
 have at_lent : ∀ a i,(a,i)∈kp.blocks→ν2.at_ a=ν1.at_ (.p i)∧ν2.ph a=ν1.ph (.p i):=fun a i hm=>by
  have hlt:=hfst a i hm
  cases a with
  | p a =>
   have hlt:a<ν.nxt:=hlt
   simp only [ν2,mergeNu,if_pos hlt,renOf_mem hn1 hm,and_self]
  | m B k=>simp only [ν2,mergeNu,renOf_mem hn1 hm,and_self]
 have at_new : ∀ i,kp.nxt≤i→ν2.at_ (.p (ν.nxt+(i - kp.nxt)))=ν1.at_ (.p i)∧ν2.ph (.p (ν.nxt+(i - kp.nxt)))=ν1.ph (.p i):=fun i hi=>by
  have : ¬ ν.nxt+(i - kp.nxt)<ν.nxt:=by omega
  simp only [ν2,mergeNu,if_neg this]
  rw [show kp.nxt+(ν.nxt+(i - kp.nxt) - ν.nxt)=i by omega]
  exact ⟨rfl,rfl⟩
 have at_σ : ∀ j b,σ j = .ren b→ν2.at_ b=ν1.at_ j∧ν2.ph b=ν1.ph j:=fun j b hs=>by
  obtain ⟨i,rfl,ci⟩:=σcase j b hs
  rcases ci with ⟨_,hm,_⟩ | ⟨hi,rfl⟩
  ·exact at_lent b i hm
  ·exact at_new i hi
 have at_old : ∀ b:Id,b.lt ν.nxt ν.cnt→(∀ i,(b,i) ∉ kp.blocks)→ν2.at_ b=ν.at_ b∧ν2.ph b=ν.ph b:=fun b hb hn=>by
  cases b with
  | p a =>
   have hb:a<ν.nxt:=hb
   simp only [ν2,mergeNu,if_pos hb,renOf_none hn,and_self]
  | m B k=>simp only [ν2,mergeNu,renOf_none hn,and_self]
 have src : ∀ b y,ν2.at_ b=some y→(∃ i,σ (.p i) = .ren b∧ν1.at_ (.p i)=some y)∨(b.lt ν.nxt ν.cnt∧(∀ i,(b,i) ∉ kp.blocks)∧ν.at_ b=some y):=fun b y hy=>by
  have low:b.lt ν.nxt ν.cnt→(∃ i,σ (.p i) = .ren b∧ν1.at_ (.p i)=some y)∨(b.lt ν.nxt ν.cnt∧(∀ i,(b,i) ∉ kp.blocks)∧ν.at_ b=some y):=fun hb=>by
   rcases renOf_cases kp.blocks b with h0 | ⟨i,h0,hm⟩
   ·right
    have hn : ∀ i,(b,i) ∉ kp.blocks:=fun i hm=>by rw [renOf_mem hn1 hm] at h0; cases h0
    exact ⟨hb,hn,by rw [← (at_old b hb hn).1]; exact hy⟩
   ·exact .inl ⟨i,σlo i b hm,by rw [← (at_lent b i hm).1]; exact hy⟩
  cases b with
  | m B k=>exact low (ν2.lt _ _ hy)
  | p a =>
   by_cases hb:a<ν.nxt
   ·exact low hb
   ·left
    have hlt:a<ν2.nxt:=ν2.lt _ _ hy
    have e:ν.nxt+(kp.nxt+(a - ν.nxt) - kp.nxt)=a:=by omega
    refine ⟨kp.nxt+(a - ν.nxt),by rw [σhi _ (by omega),e],?_⟩
    have:=(at_new (kp.nxt+(a - ν.nxt)) (by omega)).1
    rw [e] at this
    rw [← this]; exact hy
 have own0 : ∀ r,(kpNu kp hok h ν).own r → ∃ a i s n,(a,i)∈kp.blocks∧ν.at_ a=some (r,s,n):=fun r ⟨i,s,n,hat⟩=>by
  rw [kpNu_at] at hat
  obtain ⟨_,a,hm,ha⟩:=hat
  cases i with
  | p i=>exact ⟨a,i,s,n,src_p hm,ha⟩
  | m B k =>
   obtain ⟨f,hf,_⟩:=src_m hm
   simp [hfm] at hf
 have notown : ∀ b r s n,ν.at_ b=some (r,s,n)→(∀ i,(b,i) ∉ kp.blocks) → ¬ (kpNu kp hok h ν).own r:=fun b r s n hat hn ho=>by
  obtain ⟨a,i,s', n', hm,ha⟩:=own0 r ho
  exact hn i (hh.inj a b r s' n' s n ha hat ▸ hm)
 have own_lt : ∀ r,ν.own r→r<w.heap.size:=fun r ho=>hh.own_lt ho
 have same : ∀ b r s n,ν.at_ b=some (r,s,n)→(∀ i,(b,i) ∉ kp.blocks)→w'.heap[r]? = w.heap[r]? := fun b r s n hat hn=>g6.old r (own_lt r ⟨b,s,n,hat⟩) (notown b r s n hat hn)
 have klt : ∀ {i:Nat},i<kp.nxt→(Id.p i).lt (kpNu kp hok h ν).nxt (kpNu kp hok h ν).cnt:=fun {i} hi=>hi
 have evo:Evo ν F w ν2 F1 w' := by
  refine ⟨g6.os,g6.tape,g6.output,g6.size,fun r hr ho=>g6.old r hr (fun h0=>ho (ko r h0)),g6.fmono,fun r hr=>(g6.fnew r hr).imp id (fun h=>h.imp (ko r) id),?_,?_,?_,fun _=>Nat.le_refl _,?_,?_,by first | exact Nat.le_refl _ | exact Nat.le_succ _ | assumption | exact e.drawn | exact he.drawn | exact hb.drawn | exact hb.1.drawn | exact h.drawn | exact g6.drawn | exact h2.drawn | exact ed.drawn | exact e1.drawn | exact hk.drawn | (subst_vars; exact Nat.le_refl _) | (simp; done) | omega⟩
  ·rintro r ⟨b,s,n,hat⟩
   rcases src b _ hat with ⟨i,_,h0⟩ | ⟨_,_,h0⟩
   ·exact (g6.onew r ⟨_,s,n,h0⟩).imp (ko r) id
   ·exact .inl ⟨b,s,n,h0⟩
  ·intro b y hb hat
   rcases src b _ hat with ⟨i,hs,h0⟩ | ⟨_,_,h0⟩
   ·obtain ⟨i', he,ci⟩:=σcase _ b hs
    simp at he
    subst he
    rcases ci with ⟨hi,hm,_⟩ | ⟨hi,he⟩
    ·have:=g6.keep _ y (klt hi) h0
     rw [kpNu_iff] at this
     obtain ⟨a,hm', ha⟩:=this
     have:=nodupB_inj (f:=fun p:Id×Nat=>p.2) hn2 hm hm' rfl
     simp at this
     rw [this]; exact ha
    ·rw [he] at hb; exact (nlt (by omega) hb).elim
   ·exact h0
  ·show ν.nxt≤ν.nxt+_; omega
  ·intro b hb hp
   rcases renOf_cases kp.blocks b with h0 | ⟨i,h0,hm⟩
   ·have hn : ∀ i,(b,i) ∉ kp.blocks:=fun i hm=>by rw [renOf_mem hn1 hm] at h0; cases h0
    rw [(at_old b hb hn).2] at hp; exact hp
   ·rw [(at_lent b i hm).2] at hp
    have:=g6.kph _ (klt (hblt _ hm)) hp
    rw [kpNu_ph hok hm] at this; exact this
  ·intro b r s n hat hat2 c el fr hc
   rcases src b _ hat2 with ⟨i,hs,h0⟩ | ⟨_,hn,h0⟩
   ·obtain ⟨i', he,ci⟩:=σcase _ b hs
    simp at he
    subst he
    rcases ci with ⟨hi,hm,_⟩ | ⟨hi,he⟩
    ·exact g6.len _ r s n ((kpNu_iff hok).2 ⟨b,hm,hat⟩) h0 c el fr hc
    ·have:=ν.lt _ _ hat
     rw [he] at this
     exact (nlt (by omega) this).elim
   ·exact ⟨c,by rw [same b r s n hat hn]; exact hc,rfl⟩
 have tr:TrOK F1 F1 w' ν1 ν2 σ:=by
  intro b hb
  cases hs:σ b with
  | drop=>trivial
  | frz s es =>
   exfalso
   cases b with
   | m B k=>simp only [σ,backT] at hs; cases hs
   | p b =>
   by_cases hi:b<kp.nxt
   ·have:Nat.blt b kp.nxt=true:=Nat.ble_eq_true_of_le hi
    simp only [σ,backT,this,cond_true] at hs
    rcases back1_cases kp.blocks b with h0 | ⟨a,h0,hm⟩ <;> rw [h0] at hs <;> cases hs
   ·rw [σhi b (by omega)] at hs; cases hs
  | ren b' =>
   obtain ⟨e1,e2⟩:=at_σ b b' hs
   refine ⟨⟨?_,fun hp=>by rw [e2] at hp; exact hp⟩,fun y hy=>by rw [e1] at hy; exact hy⟩
   obtain ⟨i,rfl,ci⟩:=σcase b b' hs
   rcases ci with ⟨_,_,h0⟩ | ⟨h0,rfl⟩
   ·exact Id.lt_le h0 (show ν.nxt≤ν.nxt+_ by omega)
   ·have hb:i<ν1.nxt:=hb
    show ν.nxt+(i - kp.nxt)<ν.nxt+(ν1.nxt - kp.nxt)
    omega
 have hlm : ∀ B k i,(Id.m B k,i)∈kp.blocks→k<famLen h.fs B:=fun B k i hm=>by
  have:k<ν.cnt B:=hfst _ _ hm
  rwa [hh.cnt B] at this
 have getA : ∀ i b,σ (.p i) = .ren b→(mergeH h kp h1).get b=(h1.get (.p i)).map (backO σ)∨(h1.get (.p i))=none:=fun i b hs=>by
  cases hg:h1.get (.p i) with
  | none=>exact .inr rfl
  | some o =>
   left
   have hg' : getB h1.bs i=some o:=hg
   cases b with
   | p b =>
    have:=backBs_get hs (fun j hj=>by have:=σinj _ _ _ hs hj; simpa using this) h1.bs
    simp only [mergeH,Hp.get,getB_append]
    rw [this,hg']; rfl
   | m B k =>
    obtain ⟨i', he,hs'⟩:=σcase _ _ hs
    simp at he
    subst he
    rcases hs' with ⟨_,hm,_⟩ | ⟨_,he⟩
    ·rw [get_getM]
     show (getM (mergeFs h1 kp.blocks h.fs) B k).map _=_
     rw [(mergeFs_get hn1 hlm B k).1 i hm,hg']
     have hft:=List.all_eq_true.1 gfit _ hm
     simp only at hft
     cases hf:getF h.fs B with
     | none=>rw [hf] at hft; cases hft
     | some f =>
      rw [hf,hg'] at hft
      cases o with
      | mp es=>cases hft
      | lp q=>cases hft
      | it x n seen=>cases hft
      | rows s p es =>
       cases p with
       | false=>cases hft
       | true =>
        simp only at hft
        simp only [pureOf,Option.map_some,backO,← beq_eq hft]
    ·cases he
 have getN : ∀ i b,σ (.p i) = .ren b→h1.get (.p i)=none→(mergeH h kp h1).get b=none:=fun i b hs hg=>by
  have hg' : getB h1.bs i=none:=hg
  cases b with
  | p b =>
   have:=backBs_get hs (fun j hj=>by have:=σinj _ _ _ hs hj; simpa using this) h1.bs
   simp only [mergeH,Hp.get,getB_append]
   rw [this,hg']
   simp only [Option.map_none]
   have hd:=get_delAll (kp.blocks.map (·.1)) h (.p b)
   simp only [Hp.get] at hd
   rw [hd]
   obtain ⟨i', he,hs'⟩:=σcase _ _ hs
   simp at he
   subst he
   rcases hs' with ⟨_,hm,_⟩ | ⟨_,he⟩
   ·rw [if_pos (List.mem_map.2 ⟨_,hm,rfl⟩)]
   ·split
    ·rfl
    ·cases hgb:getB h.bs b with
     | none=>rfl
     | some o =>
      have:=hin (.p b) o hgb
      simp at he
      rw [he] at this
      exact (nlt (by omega) this).elim
  | m B k =>
   obtain ⟨i', he,hs'⟩:=σcase _ _ hs
   simp at he
   subst he
   rcases hs' with ⟨_,hm,_⟩ | ⟨_,he⟩
   ·rw [get_getM]
    show (getM (mergeFs h1 kp.blocks h.fs) B k).map _=_
    rw [(mergeFs_get hn1 hlm B k).1 i hm,hg']
    cases getF h.fs B <;> rfl
   ·cases he
 have getOld : ∀ b:Id,b.lt ν.nxt ν.cnt→(∀ i,(b,i) ∉ kp.blocks)→(mergeH h kp h1).get b=h.get b:=fun b hb hn=>by
  cases b with
  | m B k =>
   rw [get_getM,get_getM]
   show (getM (mergeFs h1 kp.blocks h.fs) B k).map _=_
   rw [(mergeFs_get hn1 hlm B k).2 hn]
  | p b =>
  have:getB (backBs σ h1.bs) b=none:=backBs_none (fun j hj=>by
   obtain ⟨i', he,hs'⟩:=σcase _ _ hj
   rcases hs' with ⟨_,hm,_⟩ | ⟨_,he⟩
   ·exact hn i' hm
   ·simp at he; rw [he] at hb; exact nlt (by omega) hb) _
  simp only [mergeH,Hp.get,getB_append]
  rw [this]
  have:=get_delAll (kp.blocks.map (·.1)) h (.p b)
  simp only [Hp.get] at this
  rw [this,if_neg]
  intro hm
  obtain ⟨⟨a,i⟩,hm', he⟩:=List.mem_map.1 hm
  simp at he
  subst he
  exact hn i hm'
 have heap:HeapOK ν2 F1 (mergeH h kp h1) w' := by
  refine ⟨?_,?_,?_,?_,?_,?_⟩
  ·intro b r s n hat
   rcases src b _ hat with ⟨i,hs,h0⟩ | ⟨hb,hn,h0⟩
   ·obtain ⟨o,z1,z2⟩:=g4.blk _ r s n h0
    refine ⟨backO σ o,?_,obl_back tr z2⟩
    rcases getA i b hs with h | h
    ·rw [h,z1]; rfl
    ·rw [z1] at h; cases h
   ·obtain ⟨o,z1,z2⟩:=hh.blk b r s n h0
    exact ⟨o,by rw [getOld b hb hn]; exact z1,obl_evo hh evo (same b r s n h0 hn) z2⟩
  ·intro b o hb
   by_cases hex : ∃ i,σ (.p i) = .ren b
   ·obtain ⟨i,hs⟩:=hex
    cases hg:h1.get (.p i) with
    | none=>rw [getN i b hs hg] at hb; cases hb
    | some o1 =>
     rcases getA i b hs with h | h
     ·rw [h,hg] at hb
      simp at hb
      subst hb
      obtain ⟨e1,e2⟩:=at_σ _ b hs
      rcases g4.dom _ o1 hg with ⟨y,hy⟩ | ⟨hp,s,p,rfl⟩
      ·exact .inl ⟨y,by rw [e1]; exact hy⟩
      ·refine .inr ⟨by rw [e2]; exact hp,s,p,?_⟩
       cases p <;> rfl
     ·rw [hg] at h; cases h
   ·have hn : ∀ i,(b,i) ∉ kp.blocks:=fun i hm=>hex ⟨i,σlo i b hm⟩
    have hlt:b.lt ν.nxt ν.cnt∧h.get b=some o:=by
     cases b with
     | m B k =>
      rw [get_getM] at hb
      have hb:(getM (mergeFs h1 kp.blocks h.fs) B k).map (fun p=>O.rows p.1 true p.2)=some o:=hb
      rw [(mergeFs_get hn1 hlm B k).2 hn,← get_getM] at hb
      exact ⟨hin _ o hb,hb⟩
     | p b =>
      have h0:getB (backBs σ h1.bs) b=none:=backBs_none (fun j hj=>hex ⟨j,hj⟩) _
      have hb:getB (backBs σ h1.bs++(delAll h (kp.blocks.map (·.1))).bs) b=some o:=hb
      rw [getB_append,h0] at hb
      have hb:(delAll h (kp.blocks.map (·.1))).get (.p b)=some o:=hb
      rw [get_delAll] at hb
      split at hb
      ·cases hb
      ·exact ⟨hin _ o hb,hb⟩
    obtain ⟨e1,e2⟩:=at_old b hlt.1 hn
    rcases hh.dom b o hlt.2 with ⟨y,hy⟩ | ⟨hp,h0⟩
    ·exact .inl ⟨y,by rw [e1]; exact hy⟩
    ·exact .inr ⟨by rw [e2]; exact hp,h0⟩
  ·intro b b' r s n s' n' h0 h0'
   have mix : ∀ i b' s n s' n', ν1.at_ (.p i)=some (r,s,n)→ν.at_ b' = some (r,s', n')→(∀ i,(b', i) ∉ kp.blocks)→False:=fun i b' s n s' n' a1 a2 hn=>by
    rcases g6.onew r ⟨_,s,n,a1⟩ with h2 | h2
    ·exact notown b' r s' n' a2 hn h2
    ·have:=own_lt r ⟨b', s', n', a2⟩; omega
   rcases src b _ h0 with ⟨i,hs,a1⟩ | ⟨_,hn,a1⟩ <;> rcases src b' _ h0' with ⟨i', hs', a2⟩ | ⟨_,hn', a2⟩
   ·have:=g4.inj _ _ r s n s' n' a1 a2
    simp at this
    subst this
    rw [hs] at hs'; cases hs'; rfl
   ·exact (mix i b' s n s' n' a1 a2 hn').elim
   ·exact (mix i' b s' n' s n a2 a1 hn).elim
   ·exact hh.inj b b' r s n s' n' a1 a2
  ·intro r hr
   refine ⟨(g4.frz r hr).1,?_⟩
   rintro ⟨b,s,n,hat⟩
   rcases src b _ hat with ⟨i,hs,a1⟩ | ⟨_,hn,a1⟩
   ·exact (g4.frz r hr).2 ⟨_,s,n,a1⟩
   ·rcases g6.fnew r hr with h2 | h2 | h2
    ·exact (hh.frz r h2).2 ⟨b,s,n,a1⟩
    ·exact notown b r s n a1 hn h2
    ·have:=own_lt r ⟨b,s,n,a1⟩; omega
  ·show ν.nxt+(ν1.nxt - kp.nxt)=h.nxt+(h1.nxt - kp.nxt)
   rw [hh.nxt,g4.nxt]
  ·intro B
   show ν.cnt B=famLen (mergeFs h1 kp.blocks h.fs) B
   rw [mergeFs_len]; exact hh.cnt B
 refine ⟨x,v.tr σ,ν2,F1,mergeH h kp h1,g1,g2,heap,rep_tr (fun _ h=>h) tr v x g5,evo,fun b y hy hb=>?_⟩
 have hn : ∀ i,(b,i) ∉ kp.blocks:=fun i hm=>by
  rw [List.any_eq_false] at hb
  have:=hb _ hm
  simp at this
 obtain ⟨r,s,n⟩:=y
 exact ⟨same b r s n hy hn,by rw [(at_old b (ν.lt _ _ hy) hn).1]; exact hy⟩
def KM (P:Program) (G:Nat→Option (List V)) (f:FuncId) (args:List V) (h0:Hp) (post:Hp→Us→Hp) (R:V→Us→Prop):Prop:=K P G f args h0 (fun _=>true) fun v h1 => ∃ es,h1=post h0 es∧R v es
def callsF (P:Program) (G:Nat→Option (List V)) (kn:FuncId→Option V) (mode:FuncId→Nat) (fz:Tmp→Bool) (base:Nat) (post:FuncId→Hp→Us→Hp) (rt:FuncId→Us→V→(V→Prop)→Prop):Calling :=
 ⟨kn,mode,fz,KB P G,K0G P G,fun f args h k=>match mode f with
   | 3=>guardB ((lentOf h args).ok&&bsOK h) (KM P G f (trL (renOf (lentOf h args).blocks) args) (lentH h (lentOf h args)) (post f) fun v us=>guardB (mfit h (post f (lentH h (lentOf h args)) us) (lentOf h args).blocks) <| rt f us v fun v =>
     k (v.tr (backT (lentOf h args).blocks (lentOf h args).nxt h.nxt)) (mergeH h (lentOf h args) (post f (lentH h (lentOf h args)) us)))
   | _=>K P G f args h (fun _=>true) k,
  fun f args h b=>match mode f with | 3=>(lentOf h args).blocks.any fun p=>p.1.beq b | _=>true,true,base,G,fun _ _ _ _=>False,fun _=>true⟩
theorem typedR_rep {P:Program} {t:Option TypeId} {v:V} {k:V→Prop} (h:typedR P t v k) : ∃ v', k v' ∧ ∀ {F:Nat→Prop} {w:World} {ν:Nu} {x:Value},rep F w ν v x→rep F w ν v' x:=by
 cases t with
 | none=>exact ⟨v,h,fun h=>h⟩
 | some t=>exact typedT_rep h
theorem sameV_rep {v w:V} {k:V→Prop} (h:sameV v w (k w)) : ∃ v', k v' ∧ ∀ {F:Nat→Prop} {w:World} {ν:Nu} {x:Value},rep F w ν v x→rep F w ν v' x:=⟨w,h.2,fun hx=>by rw [← h.1]; exact hx⟩
theorem callsF_ok {P:Program} {G:Nat→Option (List V)} {kn:FuncId→Option V} {mode:FuncId→Nat} {fz:Tmp→Bool} {base:Nat} {post:FuncId→Hp→Us→Hp} {rt:FuncId→Us→V→(V→Prop)→Prop} (hkn : ∀ g r,kn g=some r→K0G P G g [] fun v=>v=r) (hrt : ∀ f us v k,rt f us v k → ∃ v', k v' ∧ ∀ {F:Nat→Prop} {w:World} {ν:Nu} {x:Value},rep F w ν v x→rep F w ν v' x):(callsF P G kn mode fz base post rt).ok P:=by
 refine ⟨hkn,fun _ _ _ _ _ h=>K_of_K0 h,fun _ _ _ _ _ h1 h2=>K_of_KB h1 h2,fun _ _ _ _ _ h=>K_of_K0t h,fun _ _ _ _ h hr=>h.mono hr,fun _ _ _ h=>h,?_,fun _ _ _ _ h=>h.elim⟩
 intro f args h R hc
 by_cases hm:mode f=3
 ·simp only [callsF,hm] at hc ⊢
  rw [guardB_iff,Bool.and_eq_true] at hc
  obtain ⟨⟨hok,hbs⟩,hc⟩:=hc
  refine K_frame rfl hok hbs ?_
  intro ν F w xs g1 g2 g3
  refine (hc ν F w xs g1 g2 g3).mono fun e w' ⟨x,v,ν', F', h', z1,⟨es,z2,z3⟩,z4,z5,z6⟩=>?_
  have z3:=guardB_iff.1 z3
  obtain ⟨v', hk,hrv⟩:=hrt _ _ _ _ z3.2
  exact ⟨x,v', ν', F', h', z1,by rw [z2]; exact ⟨z3.1,hk⟩,z4,hrv z5,z6⟩
 ·simp only [callsF] at hc ⊢
  exact hc
noncomputable def WYK (P:Program) (cfg:Cfg) (fuel:Nat) (f:FuncId) (fn:Func) (args:List V) (h:Hp) (R:V→Hp→Prop):Prop :=
 match fn.body with
 | some c=>guardB (Nat.ble args.length fn.ntmps&&Nat.ble args.length 1000) (WY P cfg fuel ⟨⟨0,[]⟩,h.nxt,none,fn.ntmps,f,0⟩ c (QendX P fn R) ⟨start args,h⟩)
 | none=>False
theorem K_of_WYK {P:Program} (hm:P.follows .mixedOrders=true) {cfg:Cfg} (hcf:cfg.ok P) (fuel:Nat) {f:FuncId} {fn:Func} (hf:P.funcs[f]? = some fn) {args:List V} {h:Hp} {R:V→Hp→Prop} (hw:WYK P cfg fuel f fn args h R):K P cfg.glob f args h (fun _=>true) R:=by
 let cfg' : Cfg:={ cfg with enter:=fun _=>true,known:=fun _ _=>none,clean:=fun _=>false,spare:=fun _=>[] }
 have hc:(callY P cfg' (WY P cfg fuel) ⟨0,[]⟩ 0).c f args h R:=by
  show cY P cfg' (WY P cfg fuel) ⟨0,[]⟩ f args h R
  unfold WYK at hw
  split at hw
  ·rename_i c hb
   simp only [cY,cfg', cond_true,cond_false,onSome_iff]
   exact ⟨fn,hf,c,hb,hw⟩
  ·exact hw.elim
 have:=(callY_ok (cfg:=cfg') ⟨hcf.c0,knowsY_none⟩ (WY_sound hm hcf fuel) ⟨0,[]⟩ 0).c f args h R hc
 intro ν F w xs g1 g2 g3
 refine (this ν F w xs g1 g2 g3).mono fun e w' ⟨x,v,ν', F', h', z1,z2,z3,z4,z5,z6⟩=>?_
 exact ⟨x,v,ν', F', h', z1,z2,z3,z4,z5,fun b y hb ht=>by cases ht⟩
def sameP (_:FuncId) (h:Hp) (_:Us):Hp:=h
noncomputable def cfgM (P:Program) (glob:Nat→Option (List V)) (mode:FuncId→Nat) (T:FuncId→Option TypeId) (enter:FuncId→Bool) (kps:FuncId→Nat→Option (List Tmp)):Cfg where
 C0:=callsF P glob (fun _=>none) mode (fun _=>false) 0 sameP fun f _ v k=>typedR P (T f) v k
 enter:=enter
 clean:=fun _=>true
 kps:=kps
theorem cfgM_ok {P:Program} {glob:Nat→Option (List V)} {mode:FuncId→Nat} {T:FuncId→Option TypeId} {enter:FuncId→Bool} {kps:FuncId→Nat→Option (List Tmp)}:(cfgM P glob mode T enter kps).ok P :=
 ⟨callsF_ok (fun _ _ h=>by cases h) (fun f us v k h=>typedR_rep h),knowsY_none⟩
theorem KM_of_WYKp {P:Program} (hm:P.follows .mixedOrders=true) {cfg:Cfg} (hcf:cfg.ok P) (fuel:Nat) {f:FuncId} {fn:Func} (hf:P.funcs[f]? = some fn) {args:List V} {h:Hp} {post:Hp→Us→Hp} {Q:V→Us→Prop} (hw : ∀ R:V→Hp→Prop,(∀ v us,Q v us→R v (post h us))→WYK P cfg fuel f fn args h R):KM P cfg.glob f args h post Q:=by
 unfold KM
 refine K_of_WYK hm hcf fuel hf (hw _ fun v us hv=>⟨us,rfl,hv⟩)
theorem K0_by {P:Program} (hm:P.follows .mixedOrders=true) {cfg:Cfg} (hcf:cfg.ok P) (fuel:Nat) {f:FuncId} {fn:Func} (hf:P.funcs[f]? = some fn) {args:List V} {R:V→Prop} {p:Prop} (h:p=WY0 P cfg fuel f fn args R) (hp:p):K0G P cfg.glob f args R:=K0_of_WY0 hm hcf fuel hf (h ▸ hp)
section
variable (cfg:Cfg) (base:Bs) (P:Program) (C:Calling) (N:Nat) (all:List Oper)
end
inductive Stp where
 | q (p:Prep)
 | e (p:Prep)
 | w (p:Prep) (rs:List Prep)
 | bad
section
variable (cfg:Cfg) (base:Bs) (P:Program) (C:Calling) (N:Nat) (all:List Oper)
end
end Go.Proofs.YtbionhgjgcpogaaGreatDoor.Clean

namespace Go.Proofs.YtbionhgjgcpogaaGreatDoor.Clean
set_option linter.unusedVariables false
def forceN (n:Nat) (k:Nat→Prop):Prop:=match n with
 | 0=>k 0
 | m+1=>k (m+1)
def forceV (v:V) (k:V→Prop):Prop:=match v with
 | .raw x=>k (.raw x)
 | .ptr b i o=>k (.ptr b i o)
 | .sl b lo n=>k (.sl b lo n)
 | .lst s es=>k (.lst s es)
 | v=>k v
def forceRow:List V→(List V→Prop)→Prop
 | [],k=>k []
 | v::r,k=>forceV v fun v=>forceRow r fun r=>k (v::r)
def forceArg (v:V) (k:V→Prop):Prop:=match v with
 | .agg cs=>forceRow cs fun cs=>k (.agg cs)
 | .fn f a c=>forceRow a fun a=>forceRow c fun c=>k (.fn f a c)
 | v=>forceV v k
def forceArgs:List V→(List V→Prop)→Prop
 | [],k=>k []
 | v::r,k=>forceArg v fun v=>forceArgs r fun r=>k (v::r)
def forceRows:List (List V)→(List (List V)→Prop)→Prop
 | [],k=>k []
 | v::r,k=>forceRow v fun v=>forceRows r fun r=>k (v::r)
def forceO (o:O) (k:O→Prop):Prop:=match o with
 | .rows s true es=>k (.rows s true es)
 | .rows s false es=>forceRows es fun es=>k (.rows s false es)
 | .mp es=>k (.mp es)
 | .lp q=>k (.lp q)
 | .it x n l=>k (.it x n l)
def forceBs:List (Nat×O)→(List (Nat×O)→Prop)→Prop
 | [],k=>k []
 | (a,o)::r,k=>forceN a fun a=>forceO o fun o=>forceBs r fun r=>k ((a,o)::r)
def forceH (h:Hp) (k:Hp→Prop):Prop:=match h with
 | ⟨bs,n,fs⟩=>forceBs bs fun bs=>forceN n fun n=>k ⟨bs,n,fs⟩
def forceIds:List Id→(List Id→Prop)→Prop
 | [],k=>k []
 | .p n::r,k=>forceN n fun n=>forceIds r fun r=>k (.p n::r)
 | .m B j::r,k=>forceIds r fun r=>k (.m B j::r)
def keepOf (bs:List Id):Keep:=⟨[],bs.zipIdx,bs.length,[],[],[]⟩
def lentIds (h:Hp) (vs:List V):List Id:=(reach 200 h (refsL vs) []).filter fun b=>h.has b
theorem forceN_eq (n:Nat) (k:Nat→Prop):forceN n k=k n:=by cases n <;> rfl
theorem forceV_eq (v:V) (k:V→Prop):forceV v k=k v:=by cases v <;> rfl
theorem forceRow_eq : ∀ (l:List V) (k:List V→Prop),forceRow l k=k l
 | [],k=>rfl
 | v::r,k=>by rw [forceRow,forceV_eq,forceRow_eq]
theorem forceArg_eq (v:V) (k:V→Prop):forceArg v k=k v:=by
 cases v <;> first | exact forceRow_eq _ _ | (show forceRow _ _=_; rw [forceRow_eq,forceRow_eq]) | rfl
theorem forceArgs_eq : ∀ (l:List V) (k:List V→Prop),forceArgs l k=k l
 | [],k=>rfl
 | v::r,k=>by rw [forceArgs,forceArg_eq,forceArgs_eq]
theorem forceRows_eq : ∀ (l:List (List V)) (k:List (List V)→Prop),forceRows l k=k l
 | [],k=>rfl
 | v::r,k=>by rw [forceRows,forceRow_eq,forceRows_eq]
theorem forceO_eq (o:O) (k:O→Prop):forceO o k=k o:=by
 cases o with
 | rows s p es=>cases p with
  | true=>rfl
  | false=>exact forceRows_eq es _
 | mp es=>rfl
 | lp q=>rfl
 | it x n l=>rfl
theorem forceBs_eq : ∀ (l:List (Nat×O)) (k:List (Nat×O)→Prop),forceBs l k=k l
 | [],k=>rfl
 | (a,o)::r,k=>by rw [forceBs,forceN_eq,forceO_eq,forceBs_eq]
theorem forceH_eq (h:Hp) (k:Hp→Prop):forceH h k=k h:=by
 obtain ⟨bs,n,fs⟩:=h
 show forceBs bs _=_
 rw [forceBs_eq,forceN_eq]
theorem forceIds_eq : ∀ (l:List Id) (k:List Id→Prop),forceIds l k=k l
 | [],k=>rfl
 | .p n::r,k=>by rw [forceIds,forceN_eq,forceIds_eq]
 | .m B j::r,k=>by rw [forceIds,forceIds_eq]
theorem lent_eq (h:Hp) (vs:List V):lentOf h vs=keepOf (lentIds h vs):=rfl
def callsG (P:Program) (G:Nat→Option (List V)) (mode:FuncId→Nat) (post:FuncId→List V→Hp→Us→Hp) (rt:FuncId→List V→Us→V→(V→Prop)→Prop):Calling :=
 ⟨fun _=>none,mode,fun _=>false,KB P G,K0G P G,fun f args h k=>match mode f with
   | 3=>forceArgs args fun args=>forceIds (lentIds h args) fun ids=>guardB ((keepOf ids).ok&&bsOK h) (forceH (lentH h (keepOf ids)) fun h0=>KM P G f (trL (renOf (keepOf ids).blocks) args) h0 (post f args) fun v us=>guardB (mfit h (post f args h0 us) (keepOf ids).blocks) <| rt f args us v fun v =>
     forceH (mergeH h (keepOf ids) (post f args h0 us)) fun h' => forceV (v.tr (backT (keepOf ids).blocks (keepOf ids).nxt h.nxt)) fun v=>k v h')
   | _=>K P G f args h (fun _=>true) k,
  fun f args h b=>match mode f with | 3=>(lentOf h args).blocks.any fun p=>p.1.beq b | _=>true,true,0,G,fun _ _ _ _=>False,fun _=>true⟩
theorem callsG_ok {P:Program} {G:Nat→Option (List V)} {mode:FuncId→Nat} {post:FuncId→List V→Hp→Us→Hp} {rt:FuncId→List V→Us→V→(V→Prop)→Prop} (hrt : ∀ f args us v k,rt f args us v k → ∃ v', k v' ∧ ∀ {F:Nat→Prop} {w:World} {ν:Nu} {x:Value},rep F w ν v x→rep F w ν v' x):(callsG P G mode post rt).ok P:=by
 refine ⟨(fun _ _ h=>by cases h),fun _ _ _ _ _ h=>K_of_K0 h,fun _ _ _ _ _ h1 h2=>K_of_KB h1 h2,fun _ _ _ _ _ h=>K_of_K0t h,fun _ _ _ _ h hr=>h.mono hr,fun _ _ _ h=>h,?_,fun _ _ _ _ h=>h.elim⟩
 intro f args h R hc
 by_cases hm:mode f=3
 ·simp only [callsG,hm] at hc ⊢
  rw [forceArgs_eq,forceIds_eq,← lent_eq,guardB_iff,Bool.and_eq_true,forceH_eq] at hc
  obtain ⟨⟨hok,hbs⟩,hc⟩:=hc
  refine K_frame rfl hok hbs ?_
  intro ν F w xs g1 g2 g3
  refine (hc ν F w xs g1 g2 g3).mono fun e w' ⟨x,v,ν', F', h', z1,⟨es,z2,z3⟩,z4,z5,z6⟩=>?_
  have z3:=guardB_iff.1 z3
  obtain ⟨v', hk,hrv⟩:=hrt _ _ _ _ _ z3.2
  rw [forceH_eq,forceV_eq] at hk
  exact ⟨x,v', ν', F', h', z1,by rw [z2]; exact ⟨z3.1,hk⟩,z4,hrv z5,z6⟩
 ·simp only [callsG] at hc ⊢
  exact hc
noncomputable def cfgG (P:Program) (glob:Nat→Option (List V)) (mode:FuncId→Nat) (post:FuncId→List V→Hp→Us→Hp) (rt:FuncId→List V→Us→V→(V→Prop)→Prop) (enter:FuncId→Bool) (kps:FuncId→Nat→Option (List Tmp)):Cfg where
 C0:=callsG P glob mode post rt
 enter:=enter
 clean:=fun _=>true
 kps:=kps
theorem cfgG_ok {P:Program} {glob:Nat→Option (List V)} {mode:FuncId→Nat} {post:FuncId→List V→Hp→Us→Hp} {rt:FuncId→List V→Us→V→(V→Prop)→Prop} {enter:FuncId→Bool} {kps:FuncId→Nat→Option (List Tmp)} (hrt : ∀ f args us v k,rt f args us v k → ∃ v', k v' ∧ ∀ {F:Nat→Prop} {w:World} {ν:Nu} {x:Value},rep F w ν v x→rep F w ν v' x):(cfgG P glob mode post rt enter kps).ok P :=
 ⟨callsG_ok hrt,knowsY_none⟩
set_option linter.unusedSimpArgs false
section
variable {ν:Nu} {F:Nat→Prop} {h:Hp} {w w' : World}
theorem K_of_K0c {P:Program} {G:Nat→Option (List V)} {f:FuncId} {args:List V} {h:Hp} {R:V→Prop} (hc:closedL args=true) (hk:K0G P G f args R):K P G f args h (fun b => !b.low h.nxt) fun v _=>R v:=by
 intro ν F w xs hh hG hl
 refine (hk F w xs (fun r hr=>(hh.frz r hr).1) hG (repL_riL _ _ hc hl)).mono fun e' w' he=>?_
 obtain ⟨x,v,F'', rfl,hv,hr,hbl,q1,q2,q3⟩:=he
 obtain ⟨hh', he⟩:=heap_call0 hh hbl q1 q2 q3
 exact ⟨x,v,ν,_,_,rfl,hv,hh', ri_rep (ν:=ν) _ _ hr,he,fun b y hy _=>⟨hbl.block _ (by obtain ⟨r,s,n⟩:=y; exact hh.own_lt ⟨b,s,n,hy⟩),hy⟩⟩
end
end Go.Proofs.YtbionhgjgcpogaaGreatDoor.Clean
namespace Go.Proofs.YtbionhgjgcpogaaGreatDoor
open Go Go.Proofs.YtbionhgjgcpogaaGreatDoor.Clean
set_option linter.unusedVariables false
set_option maxRecDepth 100000
def stepC:List V:=[iv 1,iv 0,iv 0,iv (-1),iv 0,iv 0,iv 0,iv 1,iv 0,iv 0,iv (-1),iv 0,iv 0,iv 0,iv 1,iv 0,iv 0,iv (-1)]
def glX:Nat→Option (List V):=fun g=>match g with | 0=>some stepC | _=>none
theorem hmX:Tryz.prog.follows .mixedOrders=true:=by kernel_rfl
def u8 (n:Int):V := .raw (.int .u8 n)
abbrev Cl:=Int×Int×Int
def clr (c:Cl):List V:=[iv c.1,iv c.2.1,iv c.2.2]
def cll (l:List Cl):List (List V):=l.map clr
abbrev Kn:=Cl×Int×Int
def knr (k:Kn):List V:=[iv k.1.1,iv k.1.2.1,iv k.1.2.2,u8 k.2.1,u8 k.2.2]
def knl (l:List Kn):List (List V):=l.map knr
abbrev Kd:=List Cl×List Kn×Int
def kdr (k:Kd):List V:=[.lst 3 (cll k.1),.lst 5 (knl k.2.1),iv k.2.2]
def kdl (l:List Kd):List (List V):=l.map kdr
abbrev Bk:=Int×Cl×Int×Int
def bkr (b:Bk):List V:=[iv b.1,iv b.2.1.1,iv b.2.1.2.1,iv b.2.1.2.2,u8 b.2.2.1,u8 b.2.2.2]
def bkl (l:List Bk):List (List V):=l.map bkr
def nl (l:List Int):List (List V):=l.map fun n=>[iv n]
def moZ (f:FuncId):Nat:=0
def tyZ (f:FuncId):Option TypeId:=none
def kpZ:FuncId→Nat→Option (List Tmp):=slotsOf [(50,0,[0,9,10,11]),(51,0,[0,1,10,11,12]),(16,0,[9,10,11]),(143,0,[0,3,7,8]),(12,0,[0,5]),(53,0,[1,3]),(93,0,[1,3]),(17,0,[0,3]),(42,0,[0,3,5]),(23,0,[0,1,5]),(20,0,[0,1,5])]
noncomputable def cfC:Cfg:=cfgM Tryz.prog glX moZ tyZ (inN [136,144]) kpZ
noncomputable def cfZ:Cfg:=cfgM Tryz.prog glX moZ tyZ (inN [108,97]) kpZ
noncomputable def sh143 (l:List Cl) (c:Cl) (k:Nat):St:=⟨mkT [(0,V.lst 3 (cll l)),(3,V.ptr (Id.p 0) 0 0),(7,iv ((cll l).length:Int)),(8,iv (k:Int))],⟨[(0,O.rows 3 false [clr c])],1,[]⟩⟩
noncomputable def sh42 (l:List Cl) (c:Cl) (k:Nat):St:=⟨mkT [(0,V.lst 3 (cll l)),(3,V.ptr (Id.p 0) 0 0),(5,iv (k:Int))],⟨[(0,O.rows 3 false [clr c])],1,[]⟩⟩
noncomputable def sh50 (l:List Cl) (k:Nat):St:=⟨mkT [(0,V.lst 3 (cll l)),(9,V.lst 3 (cll l)),(10,iv ((cll l).length:Int)),(11,iv (k:Int))],⟨[],0,[]⟩⟩
noncomputable def sh51 (l:List Kn) (cs:List Cl) (k:Nat):St:=⟨mkT [(0,V.lst 5 (knl l)),(1,V.lst 3 (cll cs)),(10,V.lst 5 (knl l)),(11,iv ((knl l).length:Int)),(12,iv (k:Int))],⟨[],0,[]⟩⟩
noncomputable def sh16 (l:List Kd) (k:Nat):St:=⟨mkT [(9,V.lst 3 (kdl l)),(10,iv ((kdl l).length:Int)),(11,iv (k:Int))],⟨[],0,[]⟩⟩
noncomputable def sh17 (l:List Kd) (k:Nat):St:=⟨mkT [(0,V.lst 3 (kdl l)),(3,iv (k:Int))],⟨[],0,[]⟩⟩
noncomputable def sh12 (l:List Kd) (k:Nat):St:=⟨mkT [(0,V.lst 3 (kdl l)),(5,iv (k:Int))],⟨[],0,[]⟩⟩
noncomputable def sh53 (q:Kd) (k:Nat):St:=⟨mkT [(1,V.ptr (Id.p 0) 0 0),(3,iv (k:Int))],⟨[(0,O.rows 3 false [kdr q])],1,[]⟩⟩
set_option linter.unusedSimpArgs false
set_option maxRecDepth 10000
theorem hcC:cfC.ok Tryz.prog:=cfgM_ok
theorem hcZ:cfZ.ok Tryz.prog:=cfgM_ok
theorem ifB_t {b:Bool} {p q:Prop} (hb:b=true) (h:p):ifB b p q:=by subst hb; exact h
theorem ifB_f {b:Bool} {p q:Prop} (hb:b=false) (h:q):ifB b p q:=by subst hb; exact h
theorem hJ' {J:St→Prop} {s s' : St} (he:s=s') (h:J s'):J s:=he ▸ h
theorem nl_length (l:List Int):(nl l).length=l.length:=by simp [nl]
theorem cll_length (l:List Cl):(cll l).length=l.length:=by simp [cll]
theorem knl_length (l:List Kn):(knl l).length=l.length:=by simp [knl]
theorem kdl_length (l:List Kd):(kdl l).length=l.length:=by simp [kdl]
theorem bkl_length (l:List Bk):(bkl l).length=l.length:=by simp [bkl]
theorem wr1i {i n:Nat} (h:i<n) (hn:(n:Int)≤9223372036854775807):IntKind.i64.wrap ((i:Int)+1)=((i+1:Nat):Int):=by rw [wr (by omega) (by omega)]; simp
theorem getI {α:Type} {l:List α} {k:Nat} (h:k<l.length) : ∃ x,l[k]? = some x:=⟨l[k],by simp [h]⟩
noncomputable def dc (p:Prop):Bool:=@decide p (Classical.propDecidable p)
theorem dc_t {p:Prop} (h:p):dc p=true:=by simp [dc,h]
theorem dc_f {p:Prop} (h : ¬ p):dc p=false:=by simp [dc,h]
theorem dc_iff {p q:Prop} (h:p↔q):dc p=dc q:=by rw [propext h]
theorem dc_true {p:Prop} (h:dc p=true):p:=by simpa [dc] using h
theorem dc_false {p:Prop} (h:dc p=false) : ¬ p:=by simpa [dc] using h
theorem rt {p:Prop} {R:V→Prop} (h:R (bv (dc p))) (hp:p):R (bv true):=by rw [dc_t hp] at h; exact h
theorem rf {p:Prop} {R:V→Prop} (h:R (bv (dc p))) (hp : ¬ p):R (bv false):=by rw [dc_f hp] at h; exact h
theorem rb {p:Prop} {b:Bool} {R:V→Prop} (h:R (bv (dc p))) (hb:b=true↔p):R (bv b):=by
 cases b with
 | true=>exact rt h (hb.1 rfl)
 | false=>exact rf h (fun hp=>by cases hb.2 hp)
theorem take_succ' {α:Type} {l:List α} {k:Nat} {x:α} (h:l[k]? = some x):l.take (k+1)=l.take k++[x]:=by rw [List.take_add_one,h]; rfl
theorem all_take {α:Type} {l:List α} {k:Nat} {x:α} {P:α→Prop} (h:l[k]? = some x) (h1 : ∀ y∈l.take k,P y) (h2:P x) : ∀ y∈l.take (k+1),P y:=by
 rw [take_succ' h]
 intro y hy
 rcases List.mem_append.1 hy with hy | hy
 ·exact h1 y hy
 ·rw [List.mem_singleton.1 hy]; exact h2
theorem all_all {α:Type} {l:List α} {k:Nat} {P:α→Prop} (hk:l.length≤k) (h1 : ∀ y∈l.take k,P y) : ∀ y∈l,P y:=by rw [List.take_of_length_le hk] at h1; exact h1
theorem mem_at {α:Type} {l:List α} {k:Nat} {x:α} (h:l[k]? = some x):x∈l:=List.mem_of_getElem? h
theorem pw_take {α:Type} {r:α→α→Prop} (tr : ∀ a b c,r a b→r b c→r a c) {l:List α} {k:Nat} {x:α} (hx:l[k]? = some x) (h:(l.take k).Pairwise r) (hp:k=0 ∨ ∃ y,l[k - 1]? = some y∧r y x):(l.take (k+1)).Pairwise r:=by
 rw [take_succ' hx,List.pairwise_append]
 refine ⟨h,by simp,fun a ha b hb=>?_⟩
 rw [List.mem_singleton.1 hb]
 rcases hp with hp | ⟨y,hy,hr⟩
 ·subst hp; simp at ha
 ·obtain ⟨j,rfl⟩ : ∃ j,k=j+1:=by
   cases k with
   | zero=>simp at ha
   | succ j=>exact ⟨j,rfl⟩
  rw [Nat.add_sub_cancel] at hy
  rw [take_succ' hy,List.pairwise_append] at h
  rw [take_succ' hy] at ha
  rcases List.mem_append.1 ha with ha | ha
  ·exact tr a y x (h.2.2 a ha y (by simp)) hr
  ·rw [List.mem_singleton.1 ha]; exact hr
theorem pw_at {α:Type} {r:α→α→Prop} {l:List α} (h:l.Pairwise r) {k:Nat} {x y:α} (hx:l[k]? = some x) (hy:l[k - 1]? = some y) (hk:0<k):r y x:=by
 have h1:=List.getElem?_eq_some_iff.1 hx
 have h2:=List.getElem?_eq_some_iff.1 hy
 have:=List.pairwise_iff_getElem.1 h (k - 1) k h2.1 h1.1 (by omega)
 rw [h1.2,h2.2] at this
 exact this
def Nr (lo hi:Int) (c:Cl):Prop:=(lo≤c.1∧c.1≤hi)∧(lo≤c.2.1∧c.2.1≤hi)∧lo≤c.2.2∧c.2.2≤hi
def Bef (a b:Cl):Prop:=a.2.2<b.2.2∨a.2.2=b.2.2∧(a.2.1<b.2.1∨a.2.1=b.2.1∧a.1<b.1)
def BefK (a b:Kn):Prop:=Bef a.1 b.1∨a.1=b.1∧a.2.1<b.2.1
theorem cl_ext {a b:Cl} (h1:a.1=b.1) (h2:a.2.1=b.2.1) (h3:a.2.2=b.2.2):a=b:=Prod.ext h1 (Prod.ext h2 h3)
theorem Bef.tr : ∀ a b c:Cl,Bef a b→Bef b c→Bef a c:=fun a b c h1 h2=>by unfold Bef at *; omega
theorem Bef.tot (a b:Cl) (h1 : ¬ Bef a b) (h2 : ¬ Bef b a):a=b:=by unfold Bef at *; exact cl_ext (by omega) (by omega) (by omega)
theorem Bef.irr (a:Cl) : ¬ Bef a a:=by unfold Bef; omega
theorem Bef.asy {a b:Cl} (h1:Bef a b) : ¬ Bef b a:=by unfold Bef at *; omega
theorem BefK.tr : ∀ a b c:Kn,BefK a b→BefK b c→BefK a c:=fun a b c h1 h2=>by
 unfold BefK at *
 rcases h1 with h1 | ⟨e1,h1⟩ <;> rcases h2 with h2 | ⟨e2,h2⟩
 ·exact .inl (Bef.tr _ _ _ h1 h2)
 ·rw [← e2]; exact .inl h1
 ·rw [e1]; exact .inl h2
 ·exact .inr ⟨e1.trans e2,by omega⟩
theorem BefK.irr (a:Kn) : ¬ BefK a a:=by
 rintro (h | ⟨_,h⟩)
 ·exact Bef.irr _ h
 ·omega
def cmpI (x y:Int):Int:=if x<y then -1 else if x > y then 1 else 0
theorem cmpI_lt {x y:Int}:cmpI x y<0↔x<y:=by unfold cmpI; split <;> (try split) <;> omega
theorem cmpI_eq {x y:Int}:cmpI x y=0↔x=y:=by unfold cmpI; split <;> (try split) <;> omega
def cmpC (a b:Cl):Int:=if cmpI a.2.2 b.2.2≠0 then cmpI a.2.2 b.2.2 else if cmpI a.2.1 b.2.1≠0 then cmpI a.2.1 b.2.1 else cmpI a.1 b.1
theorem cmpC_lt {a b:Cl}:cmpC a b<0↔Bef a b:=by
 unfold cmpC Bef
 split
 ·rename_i h
  rw [cmpI_lt]
  have:=(not_congr cmpI_eq).1 h
  omega
 ·rename_i h
  have h:=cmpI_eq.1 (Decidable.not_not.1 h)
  split
  ·rename_i h'
   rw [cmpI_lt]
   have:=(not_congr cmpI_eq).1 h'
   omega
  ·rename_i h'
   have h' := cmpI_eq.1 (Decidable.not_not.1 h')
   rw [cmpI_lt]
   omega
theorem cmpC_eq {a b:Cl}:cmpC a b=0↔a=b:=by
 unfold cmpC
 constructor
 ·intro h
  split at h
  ·rename_i h1; exact absurd h h1
  ·rename_i h1
   split at h
   ·rename_i h2; exact absurd h h2
   ·rename_i h2
    exact cl_ext (cmpI_eq.1 h) (cmpI_eq.1 (Decidable.not_not.1 h2)) (cmpI_eq.1 (Decidable.not_not.1 h1))
 ·rintro rfl
  have : ∀ x:Int,cmpI x x=0:=fun x=>cmpI_eq.2 rfl
  simp [this]
def cmpK (a b:Kn):Int:=if cmpC a.1 b.1≠0 then cmpC a.1 b.1 else cmpI a.2.1 b.2.1
theorem cmpK_lt {a b:Kn}:cmpK a b<0↔BefK a b:=by
 unfold cmpK BefK
 split
 ·rename_i h
  rw [cmpC_lt]
  have:=(not_congr cmpC_eq).1 h
  exact ⟨.inl,fun q=>q.elim id (fun q=>absurd q.1 this)⟩
 ·rename_i h
  have h:=cmpC_eq.1 (Decidable.not_not.1 h)
  rw [cmpI_lt]
  exact ⟨fun q => .inr ⟨h,q⟩,fun q=>q.elim (fun q=>by rw [h] at q; exact absurd q (Bef.irr _)) (·.2)⟩
theorem cmp113 {a b:Int} {R:V→Prop} (h:R (iv (cmpI a b))):K0G Tryz.prog glX 113 [iv a,iv b] R:=by
 refine K0_of_WY0 hmX hcC 3000 Tryz.func113 (see (p:=ifB (a != a) (ifB (b != b) (R (iv (0:Int))) (R (iv (-1:Int)))) (ifB (b != b) (R (iv (1:Int))) (ifB (decide (a<b)) (R (iv (-1:Int))) (ifB (decide (a > b)) (R (iv (1:Int))) (R (iv (0:Int))))))) (by kernel_rfl) ?_)
 refine ifB_f (by simp) (ifB_f (by simp) (ifB_mk (fun c=>?_) (fun c=>ifB_mk (fun d=>?_) (fun d=>?_))))
 ·rw [cmpI,if_pos (of_decide_eq_true c)] at h; exact h
 ·rw [cmpI,if_neg (of_decide_eq_false c),if_pos (of_decide_eq_true d)] at h; exact h
 ·rw [cmpI,if_neg (of_decide_eq_false c),if_neg (of_decide_eq_false d)] at h; exact h
theorem cmp128 {a b:Int} {R:V→Prop} (h:R (iv (cmpI a b))):K0G Tryz.prog glX 128 [u8 a,u8 b] R:=by
 refine K0_of_WY0 hmX hcC 3000 Tryz.func128 (see (p:=ifB (a != a) (ifB (b != b) (R (iv (0:Int))) (R (iv (-1:Int)))) (ifB (b != b) (R (iv (1:Int))) (ifB (decide (a<b)) (R (iv (-1:Int))) (ifB (decide (a > b)) (R (iv (1:Int))) (R (iv (0:Int))))))) (by kernel_rfl) ?_)
 refine ifB_f (by simp) (ifB_f (by simp) (ifB_mk (fun c=>?_) (fun c=>ifB_mk (fun d=>?_) (fun d=>?_))))
 ·rw [cmpI,if_pos (of_decide_eq_true c)] at h; exact h
 ·rw [cmpI,if_neg (of_decide_eq_false c),if_pos (of_decide_eq_true d)] at h; exact h
 ·rw [cmpI,if_neg (of_decide_eq_false c),if_neg (of_decide_eq_false d)] at h; exact h
theorem or112 {a b c:Int} {R:V→Prop} (h:R (iv (if a≠0 then a else if b≠0 then b else c))):K0G Tryz.prog glX 112 [.lst 1 [[iv a],[iv b],[iv c]]] R:=by
 refine K0_of_WY0 hmX hcC 3000 Tryz.func112 (see (p:=ifB (a != (0:Int)) (R (iv a)) (ifB (b != (0:Int)) (R (iv b)) (ifB (c != (0:Int)) (R (iv c)) (R (iv (0:Int)))))) (by kernel_rfl) ?_)
 refine ifB_mk (fun d=>?_) (fun d=>ifB_mk (fun e=>?_) (fun e=>ifB_mk (fun g=>?_) (fun g=>?_)))
 ·rw [if_pos (by simpa using d)] at h; exact h
 ·rw [if_neg (by simpa using d),if_pos (by simpa using e)] at h; exact h
 ·rw [if_neg (by simpa using d),if_neg (by simpa using e)] at h; exact h
 ·rw [if_neg (by simpa using d),if_neg (by simpa using e),show c=0 from by simpa using g] at h; exact h
theorem or112b {a b:Int} {R:V→Prop} (h:R (iv (if a≠0 then a else b))):K0G Tryz.prog glX 112 [.lst 1 [[iv a],[iv b]]] R:=by
 refine K0_of_WY0 hmX hcC 3000 Tryz.func112 (see (p:=ifB (a != (0:Int)) (R (iv a)) (ifB (b != (0:Int)) (R (iv b)) (R (iv (0:Int))))) (by kernel_rfl) ?_)
 refine ifB_mk (fun d=>?_) (fun d=>ifB_mk (fun e=>?_) (fun e=>?_))
 ·rw [if_pos (by simpa using d)] at h; exact h
 ·rw [if_neg (by simpa using d)] at h; exact h
 ·rw [if_neg (by simpa using d),show b=0 from by simpa using e] at h; exact h
theorem cmp89 {a b:Cl} {R:V→Prop} (h:R (iv (cmpC a b))):K0G Tryz.prog glX 89 [.agg (clr a),.agg (clr b)] R:=by
 refine K0_of_WY0 hmX hcC 3000 Tryz.func89 (see (p:=K0G Tryz.prog glX 113 [iv a.2.2,iv b.2.2] fun v=>onIntK IntKind.i64 v fun n=>K0G Tryz.prog glX 113 [iv a.2.1,iv b.2.1] fun v=>onIntK IntKind.i64 v fun n_1=>K0G Tryz.prog glX 113 [iv a.1,iv b.1] fun v=>onIntK IntKind.i64 v fun n_2=>K0G Tryz.prog glX 112 [V.lst 1 [[iv n],[iv n_1],[iv n_2]]] fun v=>onIntK IntKind.i64 v fun n=>R (iv n)) (by kernel_rfl) ?_)
 exact cmp113 (onIntK_iv (cmp113 (onIntK_iv (cmp113 (onIntK_iv (or112 (onIntK_iv h)))))))
theorem cmp91 {a b:Kn} {R:V→Prop} (h:R (iv (cmpK a b))):K0G Tryz.prog glX 91 [.agg (knr a),.agg (knr b)] R:=by
 refine K0_of_WY0 hmX hcC 3000 Tryz.func91 (see (p:=K0G Tryz.prog glX 89 [V.agg [iv a.1.1,iv a.1.2.1,iv a.1.2.2],V.agg [iv b.1.1,iv b.1.2.1,iv b.1.2.2]] fun v=>onIntK IntKind.i64 v fun n=>K0G Tryz.prog glX 128 [V.raw (Value.int IntKind.u8 a.2.1),V.raw (Value.int IntKind.u8 b.2.1)] fun v=>onIntK IntKind.i64 v fun n_1=>K0G Tryz.prog glX 112 [V.lst 1 [[iv n],[iv n_1]]] fun v=>onIntK IntKind.i64 v fun n=>R (iv n)) (by kernel_rfl) ?_)
 exact cmp89 (a:=a.1) (b:=b.1) (onIntK_iv (cmp128 (onIntK_iv (or112b (onIntK_iv h)))))
theorem within52 {n lo hi:Int} {R:V→Prop} (h:R (bv (dc (lo≤n∧n≤hi)))):K0G Tryz.prog glX 52 [iv n,iv lo,iv hi] R:=by
 refine K0_of_WY0 hmX hcC 3000 Tryz.func52 (see (p:=ifB (decide (lo≤n)) (R (bv (decide (n≤hi)))) (R (bv false))) (by kernel_rfl) ?_)
 exact ifB_mk (fun c=>rb h ⟨fun d=>⟨of_decide_eq_true c,of_decide_eq_true d⟩,fun d=>decide_eq_true d.2⟩) (fun c=>rf h (fun d=>of_decide_eq_false c d.1))
theorem within87 {n lo hi:Int} {R:V→Prop} (h:R (bv (dc (lo≤n∧n≤hi)))):K0G Tryz.prog glX 87 [iv n,iv lo,iv hi] R:=by
 refine K0_of_WY0 hmX hcC 3000 Tryz.func87 (see (p:=ifB (decide (n ≥ lo)) (R (bv (decide (n≤hi)))) (R (bv false))) (by kernel_rfl) ?_)
 first
  | exact ifB_mk (fun c=>rb h ⟨fun d=>⟨by simpa using c,of_decide_eq_true d⟩,fun d=>decide_eq_true d.2⟩) (fun c=>rf h (fun d=>of_decide_eq_false c d.1))
theorem near84 {c:Cl} {lo hi:Int} {R:V→Prop} (h:R (bv (dc (Nr lo hi c)))):K0G Tryz.prog glX 84 [.agg (clr c),iv lo,iv hi] R:=by
 refine K0_of_WY0 hmX hcC 3000 Tryz.func84 (see (p:=K0G Tryz.prog glX 52 [iv c.1,iv lo,iv hi] fun v=>onBool v fun b=>ifB b (K0G Tryz.prog glX 52 [iv c.2.1,iv lo,iv hi] fun v=>onBool v fun b=>ifB b (K0G Tryz.prog glX 52 [iv c.2.2,iv lo,iv hi] fun v=>onBool v fun b=>R (bv b)) (R (bv false))) (R (bv false))) (by kernel_rfl) ?_)
 refine within52 (onBool_bv (ifB_mk (fun c1=>within52 (onBool_bv (ifB_mk (fun c2=>within52 (onBool_bv ?_)) (fun c2=>rf h (fun q=>dc_false c2 q.2.1))))) (fun c1=>rf h (fun q=>dc_false c1 q.1))))
 exact rb h ⟨fun q=>⟨dc_true c1,dc_true c2,dc_true q⟩,fun q=>dc_t q.2.2⟩
theorem near49 {c:Cl} {lo hi:Int} {R:V→Prop} (h:R (bv (dc (Nr lo hi c)))):K0G Tryz.prog glX 49 [.agg (clr c),iv lo,iv hi] R:=by
 refine K0_of_WY0 hmX hcC 3000 Tryz.func49 (see (p:=K0G Tryz.prog glX 87 [iv c.1,iv lo,iv hi] fun v=>onBool v fun b=>ifB b (K0G Tryz.prog glX 87 [iv c.2.1,iv lo,iv hi] fun v=>onBool v fun b=>ifB b (K0G Tryz.prog glX 87 [iv c.2.2,iv lo,iv hi] fun v=>onBool v fun b=>R (bv b)) (R (bv false))) (R (bv false))) (by kernel_rfl) ?_)
 refine within87 (onBool_bv (ifB_mk (fun c1=>within87 (onBool_bv (ifB_mk (fun c2=>within87 (onBool_bv ?_)) (fun c2=>rf h (fun q=>dc_false c2 q.2.1))))) (fun c1=>rf h (fun q=>dc_false c1 q.1))))
 exact rb h ⟨fun q=>⟨dc_true c1,dc_true c2,dc_true q⟩,fun q=>dc_t q.2.2⟩
theorem cel {l:List Cl} {i:Nat} {c:Cl} {k:Int→Int→Int→Prop} (h:l[i]? = some c) (hk:k c.1 c.2.1 c.2.2):onSome (cll l)[i]? fun row=>onCons (List.drop 0 row) fun u r=>onIntK IntKind.i64 u fun n=>onCons r fun u r=>onIntK IntKind.i64 u fun n_1=>onCons r fun u r=>onIntK IntKind.i64 u fun n_2=>k n n_1 n_2 :=
 onSome_mk (by simp [cll,h]:(cll l)[i]? = some (clr c)) hk
theorem kel {l:List Kn} {i:Nat} {c:Kn} {k:Int→Int→Int→Int→Int→Prop} (h:l[i]? = some c) (hk:k c.1.1 c.1.2.1 c.1.2.2 c.2.1 c.2.2):onSome (knl l)[i]? fun row=>onCons (List.drop 0 row) fun u r=>onIntK IntKind.i64 u fun n=>onCons r fun u r=>onIntK IntKind.i64 u fun n_1=>onCons r fun u r=>onIntK IntKind.i64 u fun n_2=>onCons r fun u r=>onIntK IntKind.u8 u fun n_3=>onCons r fun u r=>onIntK IntKind.u8 u fun n_4=>k n n_1 n_2 n_3 n_4 :=
 onSome_mk (by simp [knl,h]:(knl l)[i]? = some (knr c)) hk
theorem del {l:List Kd} {i:Nat} {q:Kd} {k:Nat→List (List V)→Nat→List (List V)→Int→Prop} (h:l[i]? = some q) (hk:k 3 (cll q.1) 5 (knl q.2.1) q.2.2):onSome (kdl l)[i]? fun row=>onCons (List.drop 0 row) fun u r=>onLst u fun s es=>onCons r fun u r=>onLst u fun s_1 es_1=>onCons r fun u r=>onIntK IntKind.i64 u fun n=>k s es s_1 es_1 n :=
 onSome_mk (by simp [kdl,h]:(kdl l)[i]? = some (kdr q)) hk
def stpL:List Cl:=[(1,0,0),(-1,0,0),(0,1,0),(0, -1,0),(0,0,1),(0,0, -1)]
def stp (d:Int):Cl:=stpL.getD d.toNat (0,0,0)
def addC (a b:Cl):Cl:=(a.1+b.1,a.2.1+b.2.1,a.2.2+b.2.2)
theorem stp_at {m:Nat} (h:m<6) {k:Int→Int→Int→Prop} (hk:k (stp (m:Int)).1 (stp (m:Int)).2.1 (stp (m:Int)).2.2):onCons (List.drop (0+m * 3) stepC) fun u r=>onIntK IntKind.i64 u fun n=>onCons r fun u r=>onIntK IntKind.i64 u fun n_1=>onCons r fun u r=>onIntK IntKind.i64 u fun n_2=>k n n_1 n_2:=by
 match m,h with
 | 0,_=>exact hk
 | 1,_=>exact hk
 | 2,_=>exact hk
 | 3,_=>exact hk
 | 4,_=>exact hk
 | 5,_=>exact hk
theorem stp_bd (d:Int):Nr (-1) 1 (stp d):=by
 unfold stp
 generalize d.toNat=m
 by_cases h:m<6
 ·match m,h with
  | 0,_=>exact ⟨by decide,by decide,by decide⟩
  | 1,_=>exact ⟨by decide,by decide,by decide⟩
  | 2,_=>exact ⟨by decide,by decide,by decide⟩
  | 3,_=>exact ⟨by decide,by decide,by decide⟩
  | 4,_=>exact ⟨by decide,by decide,by decide⟩
  | 5,_=>exact ⟨by decide,by decide,by decide⟩
 ·have:stpL.getD m (0,0,0)=(0,0,0):=by rw [List.getD_eq_getElem?_getD,List.getElem?_eq_none (by simp [stpL]; omega)]; rfl
  rw [this]; exact ⟨by decide,by decide,by decide⟩
theorem dir81 {d:Int} {R:V→Prop} (h:R (bv (dc (0≤d∧d≤5)))):K0G Tryz.prog glX 81 [iv d] R:=by
 refine K0_of_WY0 hmX hcC 3000 Tryz.func81 (see (p:=K0G Tryz.prog glX 52 [iv d,iv (0:Int),iv (5:Int)] fun v=>onBool v fun b=>R (bv b)) (by kernel_rfl) ?_)
 exact within52 (onBool_bv h)
theorem index143 {l:List Cl} {c:Cl} {R:V→Prop} (hl:(l.length:Int)≤1000000) (h : ∀ n:Int,(0≤n↔c∈l)→R (iv n)):K0G Tryz.prog glX 143 [.lst 3 (cll l),.agg (clr c)] R:=by
 refine K0_of_WY0 hmX hcC 3000 Tryz.func143 (see (p:=La 0 [(0:Tmp),(3:Tmp),(7:Tmp),(8:Tmp)] (WY Tryz.prog cfC 2995 (Env.mk (Bs.mk 0 []) 0 none 19 143 0) (cdAt [1,0,1,0,0] (bodyOf Tryz.f143))) (Qblk 0 (Qthen (WY Tryz.prog cfC 2998 (Env.mk (Bs.mk 0 []) 0 none 19 143 0) (cdAt [1,1] (bodyOf Tryz.f143)) (QendX Tryz.prog Tryz.f143 fun v h=>R (frzW h v))) (QendX Tryz.prog Tryz.f143 fun v h=>R (frzW h v)))) (St.mk (mkT [(0,V.lst 3 (cll l)),(3,V.ptr (Id.p 0) 0 0),(7,iv (↑(cll l).length:Int)),(8,iv (0:Int))]) (Hp.mk [(0,O.rows 3 false [[iv c.1,iv c.2.1,iv c.2.2]])] 1 []))) (by kernel_rfl) ?_)
 refine La.of (σ:=Nat) (fun k=>sh143 l c k) (fun k=>k≤l.length ∧ ∀ x∈l.take k,x≠c) (fun k=>l.length - k) 0 (by kernel_rfl) ⟨by omega,by simp⟩ ?_
 rintro k ⟨g1,g2⟩ J hJ
 refine see (p:=ifB (decide ((↑k:Int)<(↑(cll l).length:Int))) (onSome (cll l)[k]? fun row=>onCons (List.drop 0 row) fun u r=>onIntK IntKind.i64 u fun n=>onCons r fun u r=>onIntK IntKind.i64 u fun n_1=>onCons r fun u r=>onIntK IntKind.i64 u fun n_2=>ifB (c.1==n&&(fun b=>c.2.1==n_1&&b) ((fun b=>c.2.2==n_2&&b) true)) (R (iv (↑k:Int))) (J (St.mk (mkT [(0,V.lst 3 (cll l)),(3,V.ptr (Id.p 0) 0 0),(7,iv (↑(cll l).length:Int)),(8,iv (IntKind.i64.wrap ((↑k:Int)+(1:Int))))]) (Hp.mk [(0,O.rows 3 false [[iv c.1,iv c.2.1,iv c.2.2]])] 1 [])))) (R (iv (-1:Int)))) (by kernel_rfl) ?_
 rw [cll_length]
 refine ifB_mk (fun hb=>?_) (fun hb=>?_)
 ·have hlt:k<l.length:=by have:=of_decide_eq_true hb; omega
  obtain ⟨x,hx⟩:=getI hlt
  refine cel hx (ifB_mk (fun d=>?_) (fun d=>?_))
  ·simp only [Bool.and_eq_true,beq_iff_eq,Bool.and_true] at d
   have:c=x:=cl_ext d.1 d.2.1 d.2.2
   exact h _ ⟨fun _=>this ▸ mem_at hx,fun _=>by omega⟩
  ·rw [wr1i hlt (by omega)]
   refine hJ' (by simp [sh143,cll_length]; rfl) (hJ (k+1) ⟨hlt,all_take hx g2 (fun e=>?_)⟩ (by omega))
   subst e
   simp at d
 ·have hk:l.length≤k:=by have:=of_decide_eq_false hb; omega
  exact h _ ⟨fun h0=>by omega,fun hn=>(all_all hk g2 c hn rfl).elim⟩
theorem contains127 {l:List Cl} {c:Cl} {R:V→Prop} (hl:(l.length:Int)≤1000000) (h:R (bv (dc (c∈l)))):K0G Tryz.prog glX 127 [.lst 3 (cll l),.agg (clr c)] R:=by
 refine K0_of_WY0 hmX hcC 3000 Tryz.func127 (see (p:=K0G Tryz.prog glX 143 [V.lst 3 (cll l),V.agg [iv c.1,iv c.2.1,iv c.2.2]] fun v=>onIntK IntKind.i64 v fun n=>R (bv (decide (n ≥ (0:Int))))) (by kernel_rfl) ?_)
 exact index143 hl (fun n hn=>onIntK_iv (rb h ⟨fun q=>hn.1 (of_decide_eq_true q),fun q=>decide_eq_true (hn.2 q)⟩))
def CellsP (l:List Cl):Prop:=(1≤l.length∧l.length≤24)∧(∀ c∈l,Nr 0 15 c)∧l.Pairwise Bef
theorem areCells50 {l:List Cl} {R:V→Prop} (hl:(l.length:Int)≤1000000) (h:R (bv (dc (CellsP l)))):K0G Tryz.prog glX 50 [.lst 3 (cll l)] R:=by
 refine K0_of_WY0 hmX hcZ 3000 Tryz.func50 (see (p:=K0G Tryz.prog glX 52 [iv (↑(cll l).length:Int),iv (1:Int),iv (24:Int)] fun v=>onBool v fun b=>ifB (!b) (R (bv false)) (La 0 [(0:Tmp),(9:Tmp),(10:Tmp),(11:Tmp)] (WY Tryz.prog cfZ 2994 (Env.mk (Bs.mk 0 []) 0 none 34 50 0) (cdAt [1,1,0,1,0,0] (bodyOf Tryz.f50))) (Qblk 0 (Qthen (WY Tryz.prog cfZ 2997 (Env.mk (Bs.mk 0 []) 0 none 34 50 0) (cdAt [1,1,1] (bodyOf Tryz.f50)) (QendX Tryz.prog Tryz.f50 fun v h=>R (frzW h v))) (QendX Tryz.prog Tryz.f50 fun v h=>R (frzW h v)))) (St.mk (mkT [(0,V.lst 3 (cll l)),(9,V.lst 3 (cll l)),(10,iv (↑(cll l).length:Int)),(11,iv (0:Int))]) (Hp.mk [] 0 [])))) (by kernel_rfl) ?_)
 rw [cll_length]
 refine within52 (onBool_bv (ifB_mk (fun c=>rf h (fun q=>?_)) (fun c=>?_)))
 ·rw [dc_t ⟨by have:=q.1.1; omega,by have:=q.1.2; omega⟩] at c; cases c
 have h24:(1:Int)≤l.length∧(l.length:Int)≤24:=dc_true (by cases hq:dc ((1:Int)≤l.length∧(l.length:Int)≤24) with | true=>rfl | false=>rw [hq] at c; cases c)
 refine La.of (σ:=Nat) (fun k=>sh50 l k) (fun k=>k≤l.length∧(∀ x∈l.take k,Nr 0 15 x)∧(l.take k).Pairwise Bef) (fun k=>l.length - k) 0 (by rw [← cll_length]; kernel_rfl) ⟨by omega,by simp,by simp⟩ ?_
 rintro k ⟨g1,g2,g3⟩ J hJ
 refine see (p:=ifB (decide ((↑k:Int)<(↑(cll l).length:Int))) (onSome (cll l)[k]? fun row=>onCons (List.drop 0 row) fun u r=>onIntK IntKind.i64 u fun n=>onCons r fun u r=>onIntK IntKind.i64 u fun n_1=>onCons r fun u r=>onIntK IntKind.i64 u fun n_2=>K0G Tryz.prog glX 84 [V.agg [iv n,iv n_1,iv n_2],iv (0:Int),iv (15:Int)] fun v=>onBool v fun b=>ifB (!b) (R (bv false)) (ifB (decide ((↑k:Int) > (0:Int))) (onNat (IntKind.i64.wrap ((↑k:Int) - (1:Int))) fun m=>onSome (cll l)[m]? fun row=>onCons (List.drop 0 row) fun u r=>onIntK IntKind.i64 u fun n_3=>onCons r fun u r=>onIntK IntKind.i64 u fun n_4=>onCons r fun u r=>onIntK IntKind.i64 u fun n_5=>K0G Tryz.prog glX 89 [V.agg [iv n_3,iv n_4,iv n_5],V.agg [iv n,iv n_1,iv n_2]] fun v=>onIntK IntKind.i64 v fun n=>ifB (decide (n ≥ (0:Int))) (R (bv false)) (J (St.mk (mkT [(0,V.lst 3 (cll l)),(9,V.lst 3 (cll l)),(10,iv (↑(cll l).length:Int)),(11,iv (IntKind.i64.wrap ((↑k:Int)+(1:Int))))]) (Hp.mk [] 0 [])))) (J (St.mk (mkT [(0,V.lst 3 (cll l)),(9,V.lst 3 (cll l)),(10,iv (↑(cll l).length:Int)),(11,iv (IntKind.i64.wrap ((↑k:Int)+(1:Int))))]) (Hp.mk [] 0 []))))) (R (bv true))) (by kernel_rfl) ?_
 rw [cll_length]
 refine ifB_mk (fun hb=>?_) (fun hb=>?_)
 ·have hlt:k<l.length:=by have:=of_decide_eq_true hb; omega
  obtain ⟨x,hx⟩:=getI hlt
  refine cel hx (near84 (c:=x) (onBool_bv (ifB_mk (fun d=>rf h (fun q=>?_)) (fun d=>?_))))
  ·rw [dc_t (q.2.1 x (mem_at hx))] at d; cases d
  have hn:Nr 0 15 x:=dc_true (by cases hq:dc (Nr 0 15 x) with | true=>rfl | false=>rw [hq] at d; cases d)
  have nxt:(k=0 ∨ ∃ y,l[k - 1]? = some y∧Bef y x)→J (sh50 l (k+1)):=fun hp=>hJ (k+1) ⟨hlt,all_take hx g2 hn,pw_take Bef.tr hx g3 hp⟩ (by omega)
  refine ifB_mk (fun e=>?_) (fun e=>?_)
  ·have hk:0<k:=by have:=of_decide_eq_true e; omega
   obtain ⟨y,hy⟩:=getI (l:=l) (k:=k - 1) (by omega)
   refine onNat_mk (m:=k - 1) (by rw [wr (by omega) (by omega)]; omega) (cel hy (cmp89 (a:=y) (b:=x) (onIntK_iv (ifB_mk (fun f=>rf h (fun q=>?_)) (fun f=>?_)))))
   ·have:=cmpC_lt.2 (pw_at q.2.2 hx hy hk)
    have:=of_decide_eq_true f
    omega
   ·rw [wr1i hlt (by omega)]
    exact hJ' (by simp [sh50,cll_length]) (nxt (.inr ⟨y,hy,cmpC_lt.1 (by have:=of_decide_eq_false f; omega)⟩))
  ·rw [wr1i hlt (by omega)]
   exact hJ' (by simp [sh50,cll_length]) (nxt (.inl (by have:=of_decide_eq_false e; omega)))
 ·have hk:l.length≤k:=by have:=of_decide_eq_false hb; omega
  rw [List.take_of_length_le hk] at g3
  exact rt h ⟨by omega,all_all hk g2,g3⟩
def KnR (k:Kn):Prop:=(0≤k.2.1∧k.2.1≤255)∧0≤k.2.2∧k.2.2≤255
def KnobP (cs:List Cl) (k:Kn):Prop:=k.2.1≤5∧(1≤k.2.2∧k.2.2≤6)∧k.1∈cs∧addC k.1 (stp k.2.1) ∉ cs
theorem isKnob90 {a:Kn} {cs:List Cl} {R:V→Prop} (hr:KnR a) (hc : ∀ c∈cs,Nr 0 15 c) (hl:(cs.length:Int)≤1000000) (h:R (bv (dc (KnobP cs a)))):K0G Tryz.prog glX 90 [.agg (knr a),.lst 3 (cll cs)] R:=by
 refine K0_of_WY0 hmX hcZ 3000 Tryz.func90 (see (p:=K0G Tryz.prog glX 81 [iv (IntKind.i64.wrap a.2.1)] fun v=>onBool v fun b=>ifB (!b) (R (bv false)) (K0G Tryz.prog glX 52 [iv (IntKind.i64.wrap a.2.2),iv (1:Int),iv (6:Int)] fun v=>onBool v fun b=>ifB (!b) (R (bv false)) (K0G Tryz.prog glX 127 [V.lst 3 (cll cs),V.agg [iv a.1.1,iv a.1.2.1,iv a.1.2.2]] fun v=>onBool v fun b=>ifB b (onNat a.2.1 fun m=>need (m<6) (onCons (List.drop (0+m * 3) [iv (1:Int),iv (0:Int),iv (0:Int),iv (-1:Int),iv (0:Int),iv (0:Int),iv (0:Int),iv (1:Int),iv (0:Int),iv (0:Int),iv (-1:Int),iv (0:Int),iv (0:Int),iv (0:Int),iv (1:Int),iv (0:Int),iv (0:Int),iv (-1:Int)]) fun u r=>onIntK IntKind.i64 u fun n=>onCons r fun u r=>onIntK IntKind.i64 u fun n_1=>onCons r fun u r=>onIntK IntKind.i64 u fun n_2=>K0G Tryz.prog glX 127 [V.lst 3 (cll cs),V.agg [iv (IntKind.i64.wrap (a.1.1+n)),iv (IntKind.i64.wrap (a.1.2.1+n_1)),iv (IntKind.i64.wrap (a.1.2.2+n_2))]] fun v=>onBool v fun b=>R (bv !b))) (R (bv false))))) (by kernel_rfl) ?_)
 obtain ⟨⟨r1,r2⟩,r3,r4⟩:=hr
 rw [wr (n:=a.2.1) (by omega) (by omega),wr (n:=a.2.2) (by omega) (by omega)]
 refine dir81 (onBool_bv (ifB_mk (fun d=>rf h (fun q=>?_)) (fun d=>?_)))
 ·rw [dc_t ⟨r1,q.1⟩] at d; cases d
 have d5:0≤a.2.1∧a.2.1≤5:=dc_true (by cases hq:dc (0≤a.2.1∧a.2.1≤5) with | true=>rfl | false=>rw [hq] at d; cases d)
 refine within52 (onBool_bv (ifB_mk (fun d=>rf h (fun q=>?_)) (fun d=>?_)))
 ·rw [dc_t q.2.1] at d; cases d
 have s6:1≤a.2.2∧a.2.2≤6:=dc_true (by cases hq:dc (1≤a.2.2∧a.2.2≤6) with | true=>rfl | false=>rw [hq] at d; cases d)
 refine contains127 (c:=a.1) hl (onBool_bv (ifB_mk (fun d=>?_) (fun d=>rf h (fun q=>dc_false d q.2.2.1))))
 have hm:=dc_true d
 obtain ⟨⟨c1,c2⟩,⟨c3,c4⟩,c5,c6⟩:=hc _ hm
 obtain ⟨⟨t1,t2⟩,⟨t3,t4⟩,t5,t6⟩:=stp_bd a.2.1
 have ea:a.2.1=((a.2.1.toNat:Nat):Int):=by omega
 refine onNat_mk (m:=a.2.1.toNat) ea (need_mk ⟨by omega,stp_at (by omega) ?_⟩)
 rw [← ea,wr (n:=a.1.1+_) (by omega) (by omega),wr (n:=a.1.2.1+_) (by omega) (by omega),wr (n:=a.1.2.2+_) (by omega) (by omega)]
 refine contains127 (c:=addC a.1 (stp a.2.1)) hl (onBool_bv ?_)
 refine rb h ⟨fun q=>⟨d5.2,s6,hm,?_⟩,fun q=>by rw [dc_f q.2.2.2]; rfl⟩
 intro hn
 rw [dc_t hn] at q
 cases q
def KnobsP (cs:List Cl) (l:List Kn):Prop:=l.length≤48∧(∀ k∈l,KnobP cs k)∧l.Pairwise BefK
theorem areKnobs51 {l:List Kn} {cs:List Cl} {R:V→Prop} (hr : ∀ k∈l,KnR k) (hc : ∀ c∈cs,Nr 0 15 c) (hcl:(cs.length:Int)≤1000000) (h:R (bv (dc (KnobsP cs l)))):K0G Tryz.prog glX 51 [.lst 5 (knl l),.lst 3 (cll cs)] R:=by
 refine K0_of_WY0 hmX hcC 3000 Tryz.func51 (see (p:=ifB (decide ((↑(knl l).length:Int) > (48:Int))) (R (bv false)) (La 0 [(0:Tmp),(1:Tmp),(10:Tmp),(11:Tmp),(12:Tmp)] (WY Tryz.prog cfC 2994 (Env.mk (Bs.mk 0 []) 0 none 36 51 0) (cdAt [1,1,0,1,0,0] (bodyOf Tryz.f51))) (Qblk 0 (Qthen (WY Tryz.prog cfC 2997 (Env.mk (Bs.mk 0 []) 0 none 36 51 0) (cdAt [1,1,1] (bodyOf Tryz.f51)) (QendX Tryz.prog Tryz.f51 fun v h=>R (frzW h v))) (QendX Tryz.prog Tryz.f51 fun v h=>R (frzW h v)))) (St.mk (mkT [(0,V.lst 5 (knl l)),(1,V.lst 3 (cll cs)),(10,V.lst 5 (knl l)),(11,iv (↑(knl l).length:Int)),(12,iv (0:Int))]) (Hp.mk [] 0 [])))) (by kernel_rfl) ?_)
 rw [knl_length]
 refine ifB_mk (fun c=>rf h (fun q=>by have:=q.1; have:=of_decide_eq_true c; omega)) (fun c=>?_)
 have h48:l.length≤48:=by have:=of_decide_eq_false c; omega
 refine La.of (σ:=Nat) (fun k=>sh51 l cs k) (fun k=>k≤l.length∧(∀ x∈l.take k,KnobP cs x)∧(l.take k).Pairwise BefK) (fun k=>l.length - k) 0 (by rw [← knl_length]; kernel_rfl) ⟨by omega,by simp,by simp⟩ ?_
 rintro k ⟨g1,g2,g3⟩ J hJ
 refine see (p:=ifB (decide ((↑k:Int)<(↑(knl l).length:Int))) (onSome (knl l)[k]? fun row=>onCons (List.drop 0 row) fun u r=>onIntK IntKind.i64 u fun n=>onCons r fun u r=>onIntK IntKind.i64 u fun n_1=>onCons r fun u r=>onIntK IntKind.i64 u fun n_2=>onCons r fun u r=>onIntK IntKind.u8 u fun n_3=>onCons r fun u r=>onIntK IntKind.u8 u fun n_4=>K0G Tryz.prog glX 90 [V.agg [iv n,iv n_1,iv n_2,V.raw (Value.int IntKind.u8 n_3),V.raw (Value.int IntKind.u8 n_4)],V.lst 3 (cll cs)] fun v=>onBool v fun b=>ifB (!b) (R (bv false)) (ifB (decide ((↑k:Int) > (0:Int))) (onNat (IntKind.i64.wrap ((↑k:Int) - (1:Int))) fun m=>onSome (knl l)[m]? fun row=>onCons (List.drop 0 row) fun u r=>onIntK IntKind.i64 u fun n_5=>onCons r fun u r=>onIntK IntKind.i64 u fun n_6=>onCons r fun u r=>onIntK IntKind.i64 u fun n_7=>onCons r fun u r=>onIntK IntKind.u8 u fun n_8=>onCons r fun u r=>onIntK IntKind.u8 u fun n_9=>K0G Tryz.prog glX 91 [V.agg [iv n_5,iv n_6,iv n_7,V.raw (Value.int IntKind.u8 n_8),V.raw (Value.int IntKind.u8 n_9)],V.agg [iv n,iv n_1,iv n_2,V.raw (Value.int IntKind.u8 n_3),V.raw (Value.int IntKind.u8 n_4)]] fun v=>onIntK IntKind.i64 v fun n=>ifB (decide (n ≥ (0:Int))) (R (bv false)) (J (St.mk (mkT [(0,V.lst 5 (knl l)),(1,V.lst 3 (cll cs)),(10,V.lst 5 (knl l)),(11,iv (↑(knl l).length:Int)),(12,iv (IntKind.i64.wrap ((↑k:Int)+(1:Int))))]) (Hp.mk [] 0 [])))) (J (St.mk (mkT [(0,V.lst 5 (knl l)),(1,V.lst 3 (cll cs)),(10,V.lst 5 (knl l)),(11,iv (↑(knl l).length:Int)),(12,iv (IntKind.i64.wrap ((↑k:Int)+(1:Int))))]) (Hp.mk [] 0 []))))) (R (bv true))) (by kernel_rfl) ?_
 rw [knl_length]
 refine ifB_mk (fun hb=>?_) (fun hb=>?_)
 ·have hlt:k<l.length:=by have:=of_decide_eq_true hb; omega
  obtain ⟨x,hx⟩:=getI hlt
  refine kel hx (isKnob90 (a:=x) (hr x (mem_at hx)) hc hcl (onBool_bv (ifB_mk (fun d=>rf h (fun q=>?_)) (fun d=>?_))))
  ·rw [dc_t (q.2.1 x (mem_at hx))] at d; cases d
  have hn:KnobP cs x:=dc_true (by cases hq:dc (KnobP cs x) with | true=>rfl | false=>rw [hq] at d; cases d)
  have nxt:(k=0 ∨ ∃ y,l[k - 1]? = some y∧BefK y x)→J (sh51 l cs (k+1)):=fun hp=>hJ (k+1) ⟨hlt,all_take hx g2 hn,pw_take BefK.tr hx g3 hp⟩ (by omega)
  refine ifB_mk (fun e=>?_) (fun e=>?_)
  ·have hk:0<k:=by have:=of_decide_eq_true e; omega
   obtain ⟨y,hy⟩:=getI (l:=l) (k:=k - 1) (by omega)
   refine onNat_mk (m:=k - 1) (by rw [wr (by omega) (by omega)]; omega) (kel hy (cmp91 (a:=y) (b:=x) (onIntK_iv (ifB_mk (fun f=>rf h (fun q=>?_)) (fun f=>?_)))))
   ·have:=cmpK_lt.2 (pw_at q.2.2 hx hy hk)
    have:=of_decide_eq_true f
    omega
   ·rw [wr1i hlt (by omega)]
    exact hJ' (by simp [sh51,knl_length]) (nxt (.inr ⟨y,hy,cmpK_lt.1 (by have:=of_decide_eq_false f; omega)⟩))
  ·rw [wr1i hlt (by omega)]
   exact hJ' (by simp [sh51,knl_length]) (nxt (.inl (by have:=of_decide_eq_false e; omega)))
 ·have hk:l.length≤k:=by have:=of_decide_eq_false hb; omega
  rw [List.take_of_length_le hk] at g3
  exact rt h ⟨h48,all_all hk g2,g3⟩
def KindP (q:Kd):Prop:=CellsP q.1∧KnobsP q.1 q.2.1∧1≤q.2.2∧q.2.2≤100
def KdR (q:Kd):Prop:=(∀ k∈q.2.1,KnR k)∧q.1.length≤30∧q.2.1.length≤60
theorem kind14 {q:Kd} {R:V→Prop} (hq:KdR q) (h1:KindP q→R (iv 0)) (h2 : ¬ KindP q→R (iv 10)):K0G Tryz.prog glX 14 [.agg (kdr q)] R:=by
 refine K0_of_WY0 hmX hcC 3000 Tryz.func14 (see (p:=K0G Tryz.prog glX 50 [V.lst 3 (cll q.1)] fun v=>onBool v fun b=>ifB (!b) (R (iv (10:Int))) (K0G Tryz.prog glX 51 [V.lst 5 (knl q.2.1),V.lst 3 (cll q.1)] fun v=>onBool v fun b=>ifB (!b) (R (iv (10:Int))) (K0G Tryz.prog glX 52 [iv q.2.2,iv (1:Int),iv (100:Int)] fun v=>onBool v fun b=>ifB (!b) (R (iv (10:Int))) (R (iv (0:Int)))))) (by kernel_rfl) ?_)
 obtain ⟨k1,k2,k3⟩:=hq
 refine areCells50 (by omega) (onBool_bv (ifB_mk (fun d=>h2 (fun p=>by rw [dc_t p.1] at d; cases d)) (fun d=>?_)))
 have hc:CellsP q.1:=dc_true (by cases hq:dc (CellsP q.1) with | true=>rfl | false=>rw [hq] at d; cases d)
 refine areKnobs51 k1 hc.2.1 (by omega) (onBool_bv (ifB_mk (fun d=>h2 (fun p=>by rw [dc_t p.2.1] at d; cases d)) (fun d=>?_)))
 have hk:KnobsP q.1 q.2.1:=dc_true (by cases hq:dc (KnobsP q.1 q.2.1) with | true=>rfl | false=>rw [hq] at d; cases d)
 refine within52 (onBool_bv (ifB_mk (fun d=>h2 (fun p=>by rw [dc_t p.2.2] at d; cases d)) (fun d=>h1 ⟨hc,hk,?_⟩)))
 exact dc_true (by cases hq:dc (1≤q.2.2∧q.2.2≤100) with | true=>rfl | false=>rw [hq] at d; cases d)
def KindsP (l:List Kd):Prop:=l.length≤16 ∧ ∀ q∈l,KindP q
theorem kinds16 {l:List Kd} {R:V→Prop} (hl : ∀ q∈l,KdR q) (h1:KindsP l→R (iv 0)) (h2:16<l.length→R (iv 4)) (h3:l.length≤16 → ¬ KindsP l→R (iv 10)):K0G Tryz.prog glX 16 [.lst 3 (kdl l)] R:=by
 refine K0_of_WY0 hmX hcC 3000 Tryz.func16 (see (p:=ifB (decide ((↑(kdl l).length:Int) > (16:Int))) (R (iv (4:Int))) (La 0 [(9:Tmp),(10:Tmp),(11:Tmp)] (WY Tryz.prog cfC 2994 (Env.mk (Bs.mk 0 []) 0 none 21 16 0) (cdAt [1,1,0,1,0,0] (bodyOf Tryz.f16))) (Qblk 0 (Qthen (WY Tryz.prog cfC 2997 (Env.mk (Bs.mk 0 []) 0 none 21 16 0) (cdAt [1,1,1] (bodyOf Tryz.f16)) (QendX Tryz.prog Tryz.f16 fun v h=>R (frzW h v))) (QendX Tryz.prog Tryz.f16 fun v h=>R (frzW h v)))) (St.mk (mkT [(9,V.lst 3 (kdl l)),(10,iv (↑(kdl l).length:Int)),(11,iv (0:Int))]) (Hp.mk [] 0 [])))) (by kernel_rfl) ?_)
 rw [kdl_length]
 refine ifB_mk (fun c=>h2 (by have:=of_decide_eq_true c; omega)) (fun c=>?_)
 have h16:l.length≤16:=by have:=of_decide_eq_false c; omega
 refine La.of (σ:=Nat) (fun k=>sh16 l k) (fun k=>k≤l.length∧(∀ x∈l.take k,KindP x)) (fun k=>l.length - k) 0 (by rw [← kdl_length]; kernel_rfl) ⟨by omega,by simp⟩ ?_
 rintro k ⟨g1,g2⟩ J hJ
 refine see (p:=ifB (decide ((↑k:Int)<(↑(kdl l).length:Int))) (onSome (kdl l)[k]? fun row=>onCons (List.drop 0 row) fun u r=>onLst u fun s es=>onCons r fun u r=>onLst u fun s_1 es_1=>onCons r fun u r=>onIntK IntKind.i64 u fun n=>K0G Tryz.prog glX 14 [V.agg [V.lst s es,V.lst s_1 es_1,iv n]] fun v=>onIntK IntKind.i64 v fun n=>ifB (n != (0:Int)) (R (iv n)) (J (St.mk (mkT [(9,V.lst 3 (kdl l)),(10,iv (↑(kdl l).length:Int)),(11,iv (IntKind.i64.wrap ((↑k:Int)+(1:Int))))]) (Hp.mk [] 0 [])))) (R (iv (0:Int)))) (by kernel_rfl) ?_
 rw [kdl_length]
 refine ifB_mk (fun hb=>?_) (fun hb=>?_)
 ·have hlt:k<l.length:=by have:=of_decide_eq_true hb; omega
  obtain ⟨x,hx⟩:=getI hlt
  refine del hx (kind14 (q:=x) (hl x (mem_at hx)) (fun hp=>onIntK_iv (ifB_f rfl ?_)) (fun hn=>onIntK_iv (ifB_t rfl (h3 h16 (fun q=>hn (q.2 x (mem_at hx)))))))
  rw [wr1i hlt (by omega)]
  exact hJ' (by simp [sh16,kdl_length]) (hJ (k+1) ⟨hlt,all_take hx g2 hp⟩ (by omega))
 ·have hk:l.length≤k:=by have:=of_decide_eq_false hb; omega
  exact h1 ⟨h16,all_all hk g2⟩
set_option maxRecDepth 100000
noncomputable def cfR:Cfg:=cfgM Tryz.prog glX moZ tyZ (inN [77,78]) kpZ
noncomputable def sh93 (q:Kd) (k:Nat):St:=⟨mkT [(1,V.ptr (Id.p 0) 0 0),(3,iv (k:Int))],⟨[(0,O.rows 3 false [kdr q])],1,[]⟩⟩
end Go.Proofs.YtbionhgjgcpogaaGreatDoor
