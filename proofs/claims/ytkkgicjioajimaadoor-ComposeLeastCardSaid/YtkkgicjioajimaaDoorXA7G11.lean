/- A part of the proof. -/
import Derived.Test.YtkkgicjioajimaaDoorXA7G10
namespace Go.Proofs.YtkkgicjioajimaaDoor
open Go Go.Proofs.YtkkgicjioajimaaDoor.Clean
set_option linter.unusedVariables false
set_option linter.unusedSimpArgs false
set_option maxRecDepth 10000
def bitsN (f:Nat→Bool):Nat→Nat
 | 0=>0
 | n+1=>bitsN f n ||| (if f n then 1 <<< n else 0)
theorem bit_one (n j:Nat):(1 <<< n).testBit j=decide (n=j):=by
 rw [Nat.one_shiftLeft,Nat.testBit_two_pow]
theorem bitsN_bit (f:Nat→Bool) : ∀ n j,(bitsN f n).testBit j=(decide (j<n)&&f j)
 | 0,j=>by simp [bitsN]
 | n+1,j=>by
  rw [bitsN,Nat.testBit_or,bitsN_bit f n j]
  by_cases hf:f n=true
  ·rw [if_pos hf,bit_one]
   by_cases e:n=j
   ·subst e; simp [hf]
   ·by_cases hl:j<n
    ·simp [hl,e,show j<n+1 by omega]
    ·simp [hl,e,show ¬ j<n+1 by omega]
  ·rw [if_neg hf,Nat.zero_testBit,Bool.or_false]
   by_cases e:n=j
   ·subst e; simp at hf; simp [hf]
   ·by_cases hl:j<n
    ·simp [hl,show j<n+1 by omega]
    ·simp [hl,show ¬ j<n+1 by omega]
theorem and_pred : ∀ f s,s≠0→s<2 ^ f → ∀ j,(s.testBit j&&(s - 1).testBit j)=(s.testBit j&&decide (j≠lowF f s))
 | 0,s,h0,h=>by simp at h; exact (h0 h).elim
 | f+1,s,h0,h=>by
  intro j
  unfold lowF
  by_cases ho:s % 2=1
  ·rw [if_pos ho]
   cases j with
   | zero=>simp [Nat.testBit_zero]; omega
   | succ j =>
    rw [Nat.testBit_succ,Nat.testBit_succ,show (s - 1) / 2=s / 2 by omega]
    simp
  ·rw [if_neg ho]
   cases j with
   | zero=>simp [Nat.testBit_zero]; omega
   | succ j =>
    rw [Nat.testBit_succ,Nat.testBit_succ,show (s - 1) / 2=s / 2 - 1 by omega,and_pred f (s / 2) (by omega) (by rw [Nat.pow_succ] at h; omega) j]
    simp
theorem drop_bit {s:Nat} (h0:s≠0) (h:s<65536) (j:Nat):(s &&& (s - 1)).testBit j=(s.testBit j&&decide (j≠lowB s)):=by
 rw [Nat.testBit_and]
 exact and_pred 16 s h0 h j
theorem drop_lt {s:Nat} (h0:s≠0):s &&& (s - 1)<s:=Nat.lt_of_le_of_lt Nat.and_le_right (by omega)
def adjz (a b:C3):Bool:=decide (b=(a.1,a.2.1,a.2.2 + -1)∨b=(a.1,a.2.1,a.2.2+1))
def adjA (L:List C3) (n m:Nat):Bool:=match L[n]?,L[m]? with
 | some a,some b=>adjz a b
 | _,_=>false
def tchN (L:List C3) (s:Nat):Nat:=bitsN (fun m=>(List.range L.length).any fun n=>s.testBit n&&adjA L n m) L.length
theorem tchN_bit {L:List C3} {s:Nat} (m:Nat):(tchN L s).testBit m=true ↔ ∃ n,s.testBit n=true∧adjA L n m=true:=by
 unfold tchN
 rw [bitsN_bit,Bool.and_eq_true,List.any_eq_true]
 constructor
 ·rintro ⟨_,n,_,h⟩
  rw [Bool.and_eq_true] at h
  exact ⟨n,h⟩
 ·rintro ⟨n,h1,h2⟩
  have hm:m<L.length∧n<L.length:=by
   unfold adjA at h2
   split at h2
   ·rename_i a b ha hb
    exact ⟨(List.getElem?_eq_some_iff.1 hb).1,(List.getElem?_eq_some_iff.1 ha).1⟩
   ·cases h2
  exact ⟨by simpa using hm.1,n,List.mem_range.2 hm.2,by rw [h1,h2]; rfl⟩
def addQ (L:List C3) (t:Nat) (c:C3):Nat:=match pos L c with
 | some m=>t ||| 1 <<< m
 | none=>t
def addU (L:List C3) (t:Nat) (a:C3):Nat→Nat
 | 0=>t
 | 1=>addQ L t (a.1,a.2.1,a.2.2 + -1)
 | _=>addQ L (addQ L t (a.1,a.2.1,a.2.2 + -1)) (a.1,a.2.1,a.2.2+1)
theorem addQ_lt {L:List C3} (hL:L.length≤16) {t:Nat} (ht:t<65536) (c:C3):addQ L t c<65536:=by
 unfold addQ
 split
 ·rename_i m hm
  have:=(List.getElem?_eq_some_iff.1 (pos_some hm)).1
  exact or_lt ht (by omega)
 ·exact ht
theorem addQ_bit {L:List C3} (hn:L.Nodup) (t:Nat) (c:C3) (m:Nat):(addQ L t c).testBit m=true↔t.testBit m=true∨L[m]? = some c:=by
 unfold addQ
 split
 ·rename_i k hk
  rw [Nat.testBit_or,bit_one,Bool.or_eq_true,decide_eq_true_eq]
  have hk' := pos_some hk
  constructor
  ·rintro (h | h)
   ·exact .inl h
   ·subst h; exact .inr hk'
  ·rintro (h | h)
   ·exact .inl h
   ·refine .inr ?_
    have:=pos_of hn h
    rw [hk] at this
    simpa using this
 ·rename_i hk
  constructor
  ·exact .inl
  ·rintro (h | h)
   ·exact h
   ·exact (pos_none hk (List.mem_of_getElem? h)).elim
theorem addU_bit {L:List C3} (hn:L.Nodup) (t:Nat) {a:C3} {k:Nat} (ha:L[k]? = some a) (m:Nat):(addU L t a 2).testBit m=true↔t.testBit m=true∨adjA L k m=true:=by
 show (addQ L (addQ L t _) _).testBit m=true↔_
 rw [addQ_bit hn,addQ_bit hn]
 unfold adjA
 rw [ha]
 cases hm:L[m]? with
 | none=>simp
 | some b =>
  simp only [adjz,Option.some.injEq,decide_eq_true_eq]
  constructor
  ·rintro ((h | h) | h)
   ·exact .inl h
   ·exact .inr (.inl h)
   ·exact .inr (.inr h)
  ·rintro (h | h | h)
   ·exact .inl (.inl h)
   ·exact .inl (.inr h)
   ·exact .inr h
theorem eq105 (w d h:Int) (u:Nat) (c:List Nat) (l:List Pt) (L:List C3) (pe:List (V×V)) (sb:Nat) (bl:List (List V)) (wl:V) (s:Nat) (R:V→Prop):(La 4 [(0:Tmp),(3:Tmp),(6000000:Tmp)] (WY Tryd.prog cfF 2991 (Env.mk (Bs.mk 0 (spared [] [V.yl (Id.p 3),V.ptr (Id.p 2) 0 0]++[])) 4 none 16 102 0) (cdAt [1,0,0] (bodyOf Tryd.f102))) (Qblk 0 (QendX Tryd.prog Tryd.f102 fun v h' => kontY (WY Tryd.prog cfF 2994) (Env.mk (Bs.mk 0 []) 0 none 46 105 0) (Qblk 0 (Qthen (WY Tryd.prog cfF 2997 (Env.mk (Bs.mk 0 []) 0 none 46 105 0) (cdAt [1,1,1] (bodyOf Tryd.f105)) (QendX Tryd.prog Tryd.f105 fun v h=>R (frzW h v))) (QendX Tryd.prog Tryd.f105 fun v h=>R (frzW h v)))) (mkT [(0,V.adr [iv w,iv d,iv h,V.lst u (nb c),V.lst 4 (ptl l),V.lst 3 (fullR L),V.fmp (numE L),V.fmp pe,V.lst sb bl,wl] 0),(1,V.raw (Value.int IntKind.u16 (↑s:Int))),(2,V.ptr (Id.p 0) 0 0),(4,V.raw (Value.int IntKind.u16 (0:Int))),(5,V.ptr (Id.p 1) 0 0),(12,V.raw (Value.int IntKind.u16 (↑s:Int))),(13,V.fn (Fn.func 102) [] [V.ptr (Id.p 2) 0 0])]) 3 v (bif cfF.clean 102 then gcH 4 v h' else h'))) (St.mk (mkT [(0,V.yl (Id.p 3)),(3,V.raw (Value.int IntKind.u16 (↑s:Int)))]) (Hp.mk [(0,O.rows 1 false [[V.adr [iv w,iv d,iv h,V.lst u (nb c),V.lst 4 (ptl l),V.lst 3 (fullR L),V.fmp (numE L),V.fmp pe,V.lst sb bl,wl] 0]]),(1,O.rows 1 false [[V.raw (Value.int IntKind.u16 (0:Int))]]),(2,O.rows 1 false [[V.raw (Value.int IntKind.u16 (↑s:Int))]]),(3,O.lp (Lr.mk LoopState.ready none (mkT [(0,V.adr [iv w,iv d,iv h,V.lst u (nb c),V.lst 4 (ptl l),V.lst 3 (fullR L),V.fmp (numE L),V.fmp pe,V.lst sb bl,wl] 0),(1,V.raw (Value.int IntKind.u16 (↑s:Int))),(2,V.ptr (Id.p 0) 0 0),(4,V.raw (Value.int IntKind.u16 (0:Int))),(5,V.ptr (Id.p 1) 0 0),(12,V.raw (Value.int IntKind.u16 (↑s:Int))),(13,V.fn (Fn.func 102) [] [V.ptr (Id.p 2) 0 0])]) 46 (Array.mk [14]) (rfA (cdAt [1,1,0,1,0] (bodyOf Tryd.f105))) (rfB (cdAt [1,1,0,1,0] (bodyOf Tryd.f105))) 105))] 4 [])))=WY0 Tryd.prog cfF 3000 105 Tryd.f105 [bdA w d h u c l L pe sb bl wl,u16v s] R:=by kernel_rfl
theorem touching105 {w d h:Int} {u:Nat} {c:List Nat} {l:List Pt} {L:List C3} {pe:List (V×V)} {sb:Nat} {bl:List (List V)} {wl:V} {s:Nat} {R:V→Prop} (hs:ShOK w d h c) (hL:L=celL w d c c.length)
  (hb:s<65536) (hin : ∀ n,s.testBit n=true→n<L.length) (hR:R (u16v (tchN L s))):K0G Tryd.prog glX 105 [bdA w d h u c l L pe sb bl wl,u16v s] R:=by
 refine K0_by hmX hcF 3000 Tryd.func105 (eq105 w d h u c l L pe sb bl wl s R) ?_
 have hlen:=celL_len hs
 rw [← hL] at hlen
 have hnd:L.Nodup:=by rw [hL]; exact celL_nodup hs.1.1 hs.2.1.1 c _
 refine La.of (σ:=Nat×Nat) (fun x=>shW (bdA w d h u c l L pe sb bl wl) s x.1 x.2) (fun x=>x.1<65536∧x.2<65536∧(∀ n,x.1.testBit n=true→s.testBit n=true) ∧ ∀ m,x.2.testBit m=true ↔ ∃ n,s.testBit n=true∧x.1.testBit n=false∧adjA L n m=true) (fun x=>x.1) (s,0) (by kernel_rfl) ⟨hb,by simp only; omega,fun n h=>h,fun m=>by
  simp only [Nat.zero_testBit]
  constructor
  ·intro h; cases h
  ·rintro ⟨n,h1,h2,_⟩; rw [h1] at h2; cases h2⟩ ?_
 rintro ⟨s', t⟩ ⟨k1,k2,k3,k4⟩ J hJ
 simp only at k1 k2 k3 k4
 refine see (p := ifB ((↑s' : Int) != (0 : Int)) (K0G Tryd.prog glX 94 [V.raw (Value.int IntKind.u16 (↑s' : Int))] fun v => onIntK IntKind.i64 v fun n => La 4 [(2 : Tmp), (5 : Tmp), (6 : Tmp), (15 : Tmp), (16 : Tmp), (6000000 : Tmp)] (WY Tryd.prog cfF 2982 (Env.mk (Bs.mk 0 (spared [] [V.yl (Id.p 3), V.ptr (Id.p 2) 0 0] ++ [])) 4 (some (Id.p 3)) 46 105 2) (cdAt [0, 1, 0, 0] (rfB (cdAt [1, 1, 0, 1, 0] (bodyOf Tryd.f105))))) (Qblk 2 (Qblk 1 (Qround (Id.p 3) fun v h_1 => fzNew (callY Tryd.prog cfF (WY Tryd.prog cfF 2986) (Env.mk (Env.mk (Bs.mk 0 (spared [] [V.yl (Id.p 3), V.ptr (Id.p 2) 0 0] ++ [])) 4 none 16 102 0).base (Env.mk (Bs.mk 0 (spared [] [V.yl (Id.p 3), V.ptr (Id.p 2) 0 0] ++ [])) 4 none 16 102 0).nb (Env.mk (Bs.mk 0 (spared [] [V.yl (Id.p 3), V.ptr (Id.p 2) 0 0] ++ [])) 4 none 16 102 0).ro (Env.mk (Bs.mk 0 (spared [] [V.yl (Id.p 3), V.ptr (Id.p 2) 0 0] ++ [])) 4 none 16 102 0).N (Env.mk (Bs.mk 0 (spared [] [V.yl (Id.p 3), V.ptr (Id.p 2) 0 0] ++ [])) 4 none 16 102 0).fid 1).base (Env.mk (Env.mk (Bs.mk 0 (spared [] [V.yl (Id.p 3), V.ptr (Id.p 2) 0 0] ++ [])) 4 none 16 102 0).base (Env.mk (Bs.mk 0 (spared [] [V.yl (Id.p 3), V.ptr (Id.p 2) 0 0] ++ [])) 4 none 16 102 0).nb (Env.mk (Bs.mk 0 (spared [] [V.yl (Id.p 3), V.ptr (Id.p 2) 0 0] ++ [])) 4 none 16 102 0).ro (Env.mk (Bs.mk 0 (spared [] [V.yl (Id.p 3), V.ptr (Id.p 2) 0 0] ++ [])) 4 none 16 102 0).N (Env.mk (Bs.mk 0 (spared [] [V.yl (Id.p 3), V.ptr (Id.p 2) 0 0] ++ [])) 4 none 16 102 0).fid 1).fid) 4 (Oper.mk (some 14) (Op.call (Call.mk (Callee.value (Operand.tmp 11)) #[Operand.tmp 13] #[3])) 4 "set.go:27" #[Edge.mk 0 Ground.data, Edge.mk 2 Ground.data, Edge.mk 2 Ground.chain] none) v h_1 fun v h_2 => putT (Env.mk (Env.mk (Bs.mk 0 (spared [] [V.yl (Id.p 3), V.ptr (Id.p 2) 0 0] ++ [])) 4 none 16 102 0).base (Env.mk (Bs.mk 0 (spared [] [V.yl (Id.p 3), V.ptr (Id.p 2) 0 0] ++ [])) 4 none 16 102 0).nb (Env.mk (Bs.mk 0 (spared [] [V.yl (Id.p 3), V.ptr (Id.p 2) 0 0] ++ [])) 4 none 16 102 0).ro (Env.mk (Bs.mk 0 (spared [] [V.yl (Id.p 3), V.ptr (Id.p 2) 0 0] ++ [])) 4 none 16 102 0).N (Env.mk (Bs.mk 0 (spared [] [V.yl (Id.p 3), V.ptr (Id.p 2) 0 0] ++ [])) 4 none 16 102 0).fid 1).N (mkT [(0, V.yl (Id.p 3)), (3, V.raw (Value.int IntKind.u16 (↑s' : Int))), (5, V.raw (Value.int IntKind.u16 (↑s' : Int))), (6, bv ((↑s' : Int) != (0 : Int))), (11, V.yl (Id.p 3)), (12, V.raw (Value.int IntKind.u16 (↑s' : Int))), (13, iv n)]) (Oper.mk (some 14) (Op.call (Call.mk (Callee.value (Operand.tmp 11)) #[Operand.tmp 13] #[3])) 4 "set.go:27" #[Edge.mk 0 Ground.data, Edge.mk 2 Ground.data, Edge.mk 2 Ground.chain] none).dst v fun tm => (fun st => fzOld (callY Tryd.prog cfF (WY Tryd.prog cfF 2986) (Env.mk (Env.mk (Bs.mk 0 (spared [] [V.yl (Id.p 3), V.ptr (Id.p 2) 0 0] ++ [])) 4 none 16 102 0).base (Env.mk (Bs.mk 0 (spared [] [V.yl (Id.p 3), V.ptr (Id.p 2) 0 0] ++ [])) 4 none 16 102 0).nb (Env.mk (Bs.mk 0 (spared [] [V.yl (Id.p 3), V.ptr (Id.p 2) 0 0] ++ [])) 4 none 16 102 0).ro (Env.mk (Bs.mk 0 (spared [] [V.yl (Id.p 3), V.ptr (Id.p 2) 0 0] ++ [])) 4 none 16 102 0).N (Env.mk (Bs.mk 0 (spared [] [V.yl (Id.p 3), V.ptr (Id.p 2) 0 0] ++ [])) 4 none 16 102 0).fid 1).base (Env.mk (Env.mk (Bs.mk 0 (spared [] [V.yl (Id.p 3), V.ptr (Id.p 2) 0 0] ++ [])) 4 none 16 102 0).base (Env.mk (Bs.mk 0 (spared [] [V.yl (Id.p 3), V.ptr (Id.p 2) 0 0] ++ [])) 4 none 16 102 0).nb (Env.mk (Bs.mk 0 (spared [] [V.yl (Id.p 3), V.ptr (Id.p 2) 0 0] ++ [])) 4 none 16 102 0).ro (Env.mk (Bs.mk 0 (spared [] [V.yl (Id.p 3), V.ptr (Id.p 2) 0 0] ++ [])) 4 none 16 102 0).N (Env.mk (Bs.mk 0 (spared [] [V.yl (Id.p 3), V.ptr (Id.p 2) 0 0] ++ [])) 4 none 16 102 0).fid 1).fid) (askY cfF (Env.mk (Env.mk (Bs.mk 0 (spared [] [V.yl (Id.p 3), V.ptr (Id.p 2) 0 0] ++ [])) 4 none 16 102 0).base (Env.mk (Bs.mk 0 (spared [] [V.yl (Id.p 3), V.ptr (Id.p 2) 0 0] ++ [])) 4 none 16 102 0).nb (Env.mk (Bs.mk 0 (spared [] [V.yl (Id.p 3), V.ptr (Id.p 2) 0 0] ++ [])) 4 none 16 102 0).ro (Env.mk (Bs.mk 0 (spared [] [V.yl (Id.p 3), V.ptr (Id.p 2) 0 0] ++ [])) 4 none 16 102 0).N (Env.mk (Bs.mk 0 (spared [] [V.yl (Id.p 3), V.ptr (Id.p 2) 0 0] ++ [])) 4 none 16 102 0).fid 1).base) (Oper.mk (some 14) (Op.call (Call.mk (Callee.value (Operand.tmp 11)) #[Operand.tmp 13] #[3])) 4 "set.go:27" #[Edge.mk 0 Ground.data, Edge.mk 2 Ground.data, Edge.mk 2 Ground.chain] none) st fun st => wOps Tryd.prog (callY Tryd.prog cfF (WY Tryd.prog cfF 2986) (Env.mk (Env.mk (Bs.mk 0 (spared [] [V.yl (Id.p 3), V.ptr (Id.p 2) 0 0] ++ [])) 4 none 16 102 0).base (Env.mk (Bs.mk 0 (spared [] [V.yl (Id.p 3), V.ptr (Id.p 2) 0 0] ++ [])) 4 none 16 102 0).nb (Env.mk (Bs.mk 0 (spared [] [V.yl (Id.p 3), V.ptr (Id.p 2) 0 0] ++ [])) 4 none 16 102 0).ro (Env.mk (Bs.mk 0 (spared [] [V.yl (Id.p 3), V.ptr (Id.p 2) 0 0] ++ [])) 4 none 16 102 0).N (Env.mk (Bs.mk 0 (spared [] [V.yl (Id.p 3), V.ptr (Id.p 2) 0 0] ++ [])) 4 none 16 102 0).fid 1).base (Env.mk (Env.mk (Bs.mk 0 (spared [] [V.yl (Id.p 3), V.ptr (Id.p 2) 0 0] ++ [])) 4 none 16 102 0).base (Env.mk (Bs.mk 0 (spared [] [V.yl (Id.p 3), V.ptr (Id.p 2) 0 0] ++ [])) 4 none 16 102 0).nb (Env.mk (Bs.mk 0 (spared [] [V.yl (Id.p 3), V.ptr (Id.p 2) 0 0] ++ [])) 4 none 16 102 0).ro (Env.mk (Bs.mk 0 (spared [] [V.yl (Id.p 3), V.ptr (Id.p 2) 0 0] ++ [])) 4 none 16 102 0).N (Env.mk (Bs.mk 0 (spared [] [V.yl (Id.p 3), V.ptr (Id.p 2) 0 0] ++ [])) 4 none 16 102 0).fid 1).fid) (askY cfF (Env.mk (Env.mk (Bs.mk 0 (spared [] [V.yl (Id.p 3), V.ptr (Id.p 2) 0 0] ++ [])) 4 none 16 102 0).base (Env.mk (Bs.mk 0 (spared [] [V.yl (Id.p 3), V.ptr (Id.p 2) 0 0] ++ [])) 4 none 16 102 0).nb (Env.mk (Bs.mk 0 (spared [] [V.yl (Id.p 3), V.ptr (Id.p 2) 0 0] ++ [])) 4 none 16 102 0).ro (Env.mk (Bs.mk 0 (spared [] [V.yl (Id.p 3), V.ptr (Id.p 2) 0 0] ++ [])) 4 none 16 102 0).N (Env.mk (Bs.mk 0 (spared [] [V.yl (Id.p 3), V.ptr (Id.p 2) 0 0] ++ [])) 4 none 16 102 0).fid 1).base) (Env.mk (Env.mk (Bs.mk 0 (spared [] [V.yl (Id.p 3), V.ptr (Id.p 2) 0 0] ++ [])) 4 none 16 102 0).base (Env.mk (Bs.mk 0 (spared [] [V.yl (Id.p 3), V.ptr (Id.p 2) 0 0] ++ [])) 4 none 16 102 0).nb (Env.mk (Bs.mk 0 (spared [] [V.yl (Id.p 3), V.ptr (Id.p 2) 0 0] ++ [])) 4 none 16 102 0).ro (Env.mk (Bs.mk 0 (spared [] [V.yl (Id.p 3), V.ptr (Id.p 2) 0 0] ++ [])) 4 none 16 102 0).N (Env.mk (Bs.mk 0 (spared [] [V.yl (Id.p 3), V.ptr (Id.p 2) 0 0] ++ [])) 4 none 16 102 0).fid 1).N #[Oper.mk (some 11) (Op.move (Operand.tmp 0)) 160 "set.go:27" #[] none, Oper.mk (some 12) (Op.move (Operand.tmp 3)) 102 "set.go:27" #[] none, Oper.mk (some 13) (Op.call (Call.mk (Callee.value (Operand.func 94)) #[Operand.tmp 12] #[102])) 3 "set.go:27" #[Edge.mk 1 Ground.data] none, Oper.mk (some 14) (Op.call (Call.mk (Callee.value (Operand.tmp 11)) #[Operand.tmp 13] #[3])) 4 "set.go:27" #[Edge.mk 0 Ground.data, Edge.mk 2 Ground.data, Edge.mk 2 Ground.chain] none, Oper.mk (some 15) (Op.unOp UnOp.not 4 (Operand.tmp 14)) 4 "set.go:27" #[Edge.mk 3 Ground.data] none].toList [Oper.mk (some 15) (Op.unOp UnOp.not 4 (Operand.tmp 14)) 4 "set.go:27" #[Edge.mk 3 Ground.data] none] st (Qthen (WY Tryd.prog cfF 2987 (Env.mk (Bs.mk 0 (spared [] [V.yl (Id.p 3), V.ptr (Id.p 2) 0 0] ++ [])) 4 none 16 102 1) (cdAt [1, 0, 0, 1, 0, 0, 1] (bodyOf Tryd.f102)) (Qblk 1 (Qthen (WY Tryd.prog cfF 2989 (Env.mk (Bs.mk 0 (spared [] [V.yl (Id.p 3), V.ptr (Id.p 2) 0 0] ++ [])) 4 none 16 102 0) (cdAt [1, 0, 0, 1, 1] (bodyOf Tryd.f102)) (Qla 4 [(0 : Tmp), (3 : Tmp), (6000000 : Tmp)] J (Qblk 0 (QendX Tryd.prog Tryd.f102 fun v h' => kontY (WY Tryd.prog cfF 2994) (Env.mk (Bs.mk 0 []) 0 none 46 105 0) (Qblk 0 (Qthen (WY Tryd.prog cfF 2997 (Env.mk (Bs.mk 0 []) 0 none 46 105 0) (cdAt [1, 1, 1] (bodyOf Tryd.f105)) (QendX Tryd.prog Tryd.f105 fun v h => R (frzW h v))) (QendX Tryd.prog Tryd.f105 fun v h => R (frzW h v)))) (mkT [(0, V.adr [iv w, iv d, iv h, V.lst u (nb c), V.lst 4 (ptl l), V.lst 3 (fullR L), V.fmp (numE L), V.fmp pe, V.lst sb bl, wl] 0), (1, V.raw (Value.int IntKind.u16 (↑s : Int))), (2, V.ptr (Id.p 0) 0 0), (4, V.raw (Value.int IntKind.u16 (0 : Int))), (5, V.ptr (Id.p 1) 0 0), (12, V.raw (Value.int IntKind.u16 (↑s : Int))), (13, V.fn (Fn.func 102) [] [V.ptr (Id.p 2) 0 0])]) 3 v (bif cfF.clean 102 then gcH 4 v h' else h'))))) (Qla 4 [(0 : Tmp), (3 : Tmp), (6000000 : Tmp)] J (Qblk 0 (QendX Tryd.prog Tryd.f102 fun v h' => kontY (WY Tryd.prog cfF 2994) (Env.mk (Bs.mk 0 []) 0 none 46 105 0) (Qblk 0 (Qthen (WY Tryd.prog cfF 2997 (Env.mk (Bs.mk 0 []) 0 none 46 105 0) (cdAt [1, 1, 1] (bodyOf Tryd.f105)) (QendX Tryd.prog Tryd.f105 fun v h => R (frzW h v))) (QendX Tryd.prog Tryd.f105 fun v h => R (frzW h v)))) (mkT [(0, V.adr [iv w, iv d, iv h, V.lst u (nb c), V.lst 4 (ptl l), V.lst 3 (fullR L), V.fmp (numE L), V.fmp pe, V.lst sb bl, wl] 0), (1, V.raw (Value.int IntKind.u16 (↑s : Int))), (2, V.ptr (Id.p 0) 0 0), (4, V.raw (Value.int IntKind.u16 (0 : Int))), (5, V.ptr (Id.p 1) 0 0), (12, V.raw (Value.int IntKind.u16 (↑s : Int))), (13, V.fn (Fn.func 102) [] [V.ptr (Id.p 2) 0 0])]) 3 v (bif cfF.clean 102 then gcH 4 v h' else h'))))))) (Qblk 1 (Qthen (WY Tryd.prog cfF 2989 (Env.mk (Bs.mk 0 (spared [] [V.yl (Id.p 3), V.ptr (Id.p 2) 0 0] ++ [])) 4 none 16 102 0) (cdAt [1, 0, 0, 1, 1] (bodyOf Tryd.f102)) (Qla 4 [(0 : Tmp), (3 : Tmp), (6000000 : Tmp)] J (Qblk 0 (QendX Tryd.prog Tryd.f102 fun v h' => kontY (WY Tryd.prog cfF 2994) (Env.mk (Bs.mk 0 []) 0 none 46 105 0) (Qblk 0 (Qthen (WY Tryd.prog cfF 2997 (Env.mk (Bs.mk 0 []) 0 none 46 105 0) (cdAt [1, 1, 1] (bodyOf Tryd.f105)) (QendX Tryd.prog Tryd.f105 fun v h => R (frzW h v))) (QendX Tryd.prog Tryd.f105 fun v h => R (frzW h v)))) (mkT [(0, V.adr [iv w, iv d, iv h, V.lst u (nb c), V.lst 4 (ptl l), V.lst 3 (fullR L), V.fmp (numE L), V.fmp pe, V.lst sb bl, wl] 0), (1, V.raw (Value.int IntKind.u16 (↑s : Int))), (2, V.ptr (Id.p 0) 0 0), (4, V.raw (Value.int IntKind.u16 (0 : Int))), (5, V.ptr (Id.p 1) 0 0), (12, V.raw (Value.int IntKind.u16 (↑s : Int))), (13, V.fn (Fn.func 102) [] [V.ptr (Id.p 2) 0 0])]) 3 v (bif cfF.clean 102 then gcH 4 v h' else h'))))) (Qla 4 [(0 : Tmp), (3 : Tmp), (6000000 : Tmp)] J (Qblk 0 (QendX Tryd.prog Tryd.f102 fun v h' => kontY (WY Tryd.prog cfF 2994) (Env.mk (Bs.mk 0 []) 0 none 46 105 0) (Qblk 0 (Qthen (WY Tryd.prog cfF 2997 (Env.mk (Bs.mk 0 []) 0 none 46 105 0) (cdAt [1, 1, 1] (bodyOf Tryd.f105)) (QendX Tryd.prog Tryd.f105 fun v h => R (frzW h v))) (QendX Tryd.prog Tryd.f105 fun v h => R (frzW h v)))) (mkT [(0, V.adr [iv w, iv d, iv h, V.lst u (nb c), V.lst 4 (ptl l), V.lst 3 (fullR L), V.fmp (numE L), V.fmp pe, V.lst sb bl, wl] 0), (1, V.raw (Value.int IntKind.u16 (↑s : Int))), (2, V.ptr (Id.p 0) 0 0), (4, V.raw (Value.int IntKind.u16 (0 : Int))), (5, V.ptr (Id.p 1) 0 0), (12, V.raw (Value.int IntKind.u16 (↑s : Int))), (13, V.fn (Fn.func 102) [] [V.ptr (Id.p 2) 0 0])]) 3 v (bif cfF.clean 102 then gcH 4 v h' else h')))))) Ex.norm)) (St.mk tm h_2)))) (St.mk (mkT [(2, V.ptr (Id.p 0) 0 0), (5, V.ptr (Id.p 1) 0 0), (6, iv n), (15, V.agg [iv (-1 : Int), iv (1 : Int)]), (16, iv (0 : Int))]) (Hp.mk [(0, O.rows 1 false [[V.adr [iv w, iv d, iv h, V.lst u (nb c), V.lst 4 (ptl l), V.lst 3 (fullR L), V.fmp (numE L), V.fmp pe, V.lst sb bl, wl] 0]]), (1, O.rows 1 false [[V.raw (Value.int IntKind.u16 (↑t : Int))]]), (2, O.rows 1 false [[V.raw (Value.int IntKind.u16 (↑s : Int))]]), (3, O.lp (Lr.mk LoopState.busy none (mkT [(0, V.adr [iv w, iv d, iv h, V.lst u (nb c), V.lst 4 (ptl l), V.lst 3 (fullR L), V.fmp (numE L), V.fmp pe, V.lst sb bl, wl] 0), (1, V.raw (Value.int IntKind.u16 (↑s : Int))), (2, V.ptr (Id.p 0) 0 0), (4, V.raw (Value.int IntKind.u16 (0 : Int))), (5, V.ptr (Id.p 1) 0 0), (12, V.raw (Value.int IntKind.u16 (↑s : Int))), (13, V.fn (Fn.func (102 : FuncId)) [] [V.ptr (Id.p 2) 0 0])]) 46 (Array.mk [14]) (rfA (cdAt [1, 1, 0, 1, 0] (bodyOf Tryd.f105))) (rfB (cdAt [1, 1, 0, 1, 0] (bodyOf Tryd.f105))) 105))] 4 []))) (R (V.raw (Value.int IntKind.u16 (↑t : Int))))) (by kernel_rfl) ?_
 refine ifB_mk (fun hb=>?_) (fun hb=>?_)
 ·have h0:s' ≠ 0:=by rintro rfl; simp at hb
  obtain ⟨l1,l2⟩:=lowB_lt h0 k1
  refine first94 k1 (onIntK_iv ?_)
  obtain ⟨n,hn⟩ : ∃ n:Int,n=(lowB s' : Int):=⟨_,rfl⟩
  rw [← hn]
  have hlow:=hin _ (k3 _ l2)
  obtain ⟨a,ha⟩:=getI hlow
  refine La.of (σ:=Nat×Nat) (fun x=>shX (bdA w d h u c l L pe sb bl wl) s n x.1 x.2) (fun x=>x.2≤2∧x.1<65536∧x.1=addU L t a x.2) (fun x=>2 - x.2) (t,0) (by kernel_rfl) ⟨by simp only; omega,k2,rfl⟩ ?_
  rintro ⟨t', j⟩ ⟨q1,q2,q3⟩ J2 hJ2
  simp only at q1 q2 q3
  refine see (p:=ifB (decide ((↑j:Int)<(2:Int))) (need (j<2) (onSome [iv (-1:Int),iv (1:Int)][j * 1]? fun v=>onIntK IntKind.i64 v fun n_1=>onNat n fun m=>onSome (fullR L)[m]? fun row=>onCons (List.drop 0 row) fun u_1 r=>onIntK IntKind.i64 u_1 fun n_2=>onCons r fun u_2 r=>onIntK IntKind.i64 u_2 fun n_3=>onCons r fun u_3 r=>onIntK IntKind.i64 u_3 fun n_4=>onFind (findK Tryd.prog 98 (V.agg [iv n_2,iv n_3,iv (IntKind.i64.wrap (n_4+n_1))]) (numE L) 0) (fun i kv vv=>onIntK IntKind.i64 vv fun n_5=>K0G Tryd.prog glX 119 [V.raw (Value.int IntKind.u16 (↑t' : Int)),iv n_5] fun v=>onIntK IntKind.u16 v fun n_6=>J2 (St.mk (mkT [(2,V.ptr (Id.p 0) 0 0),(5,V.ptr (Id.p 1) 0 0),(6,iv n),(15,V.agg [iv (-1:Int),iv (1:Int)]),(16,iv (IntKind.i64.wrap ((↑j:Int)+(1:Int))))]) (Hp.mk [(0,O.rows 1 false [[V.adr [iv w,iv d,iv h,V.lst u (nb c),V.lst 4 (ptl l),V.lst 3 (fullR L),V.fmp (numE L),V.fmp pe,V.lst sb bl,wl] 0]]),(1,O.rows 1 false [[V.raw (Value.int IntKind.u16 n_6)]]),(2,O.rows 1 false [[V.raw (Value.int IntKind.u16 (↑s:Int))]]),(3,O.lp (Lr.mk LoopState.busy none (mkT [(0,V.adr [iv w,iv d,iv h,V.lst u (nb c),V.lst 4 (ptl l),V.lst 3 (fullR L),V.fmp (numE L),V.fmp pe,V.lst sb bl,wl] 0),(1,V.raw (Value.int IntKind.u16 (↑s:Int))),(2,V.ptr (Id.p 0) 0 0),(4,V.raw (Value.int IntKind.u16 (0:Int))),(5,V.ptr (Id.p 1) 0 0),(12,V.raw (Value.int IntKind.u16 (↑s:Int))),(13,V.fn (Fn.func (102:FuncId)) [] [V.ptr (Id.p 2) 0 0])]) 46 (Array.mk [14]) (rfA (cdAt [1,1,0,1,0] (bodyOf Tryd.f105))) (rfB (cdAt [1,1,0,1,0] (bodyOf Tryd.f105))) 105))] 4 []))) (J2 (St.mk (mkT [(2,V.ptr (Id.p 0) 0 0),(5,V.ptr (Id.p 1) 0 0),(6,iv n),(15,V.agg [iv (-1:Int),iv (1:Int)]),(16,iv (IntKind.i64.wrap ((↑j:Int)+(1:Int))))]) (Hp.mk [(0,O.rows 1 false [[V.adr [iv w,iv d,iv h,V.lst u (nb c),V.lst 4 (ptl l),V.lst 3 (fullR L),V.fmp (numE L),V.fmp pe,V.lst sb bl,wl] 0]]),(1,O.rows 1 false [[V.raw (Value.int IntKind.u16 (↑t' : Int))]]),(2,O.rows 1 false [[V.raw (Value.int IntKind.u16 (↑s:Int))]]),(3,O.lp (Lr.mk LoopState.busy none (mkT [(0,V.adr [iv w,iv d,iv h,V.lst u (nb c),V.lst 4 (ptl l),V.lst 3 (fullR L),V.fmp (numE L),V.fmp pe,V.lst sb bl,wl] 0),(1,V.raw (Value.int IntKind.u16 (↑s:Int))),(2,V.ptr (Id.p 0) 0 0),(4,V.raw (Value.int IntKind.u16 (0:Int))),(5,V.ptr (Id.p 1) 0 0),(12,V.raw (Value.int IntKind.u16 (↑s:Int))),(13,V.fn (Fn.func (102:FuncId)) [] [V.ptr (Id.p 2) 0 0])]) 46 (Array.mk [14]) (rfA (cdAt [1,1,0,1,0] (bodyOf Tryd.f105))) (rfB (cdAt [1,1,0,1,0] (bodyOf Tryd.f105))) 105))] 4 []))))) (J (St.mk (mkT [(0,V.yl (Id.p 3)),(3,V.raw (Value.int IntKind.u16 (IntKind.u16.wrap (↑(BitVec.ofInt 16 (↑s' : Int) &&& BitVec.ofInt 16 (IntKind.u16.wrap ((↑s' : Int) - (1:Int)))).toNat:Int))))]) (Hp.mk [(0,O.rows 1 false [[V.adr [iv w,iv d,iv h,V.lst u (nb c),V.lst 4 (ptl l),V.lst 3 (fullR L),V.fmp (numE L),V.fmp pe,V.lst sb bl,wl] 0]]),(1,O.rows 1 false [[V.raw (Value.int IntKind.u16 (↑t' : Int))]]),(2,O.rows 1 false [[V.raw (Value.int IntKind.u16 (↑s:Int))]]),(3,O.lp (Lr.mk LoopState.ready none (mkT [(0,V.adr [iv w,iv d,iv h,V.lst u (nb c),V.lst 4 (ptl l),V.lst 3 (fullR L),V.fmp (numE L),V.fmp pe,V.lst sb bl,wl] 0),(1,V.raw (Value.int IntKind.u16 (↑s:Int))),(2,V.ptr (Id.p 0) 0 0),(4,V.raw (Value.int IntKind.u16 (0:Int))),(5,V.ptr (Id.p 1) 0 0),(12,V.raw (Value.int IntKind.u16 (↑s:Int))),(13,V.fn (Fn.func (102:FuncId)) [] [V.ptr (Id.p 2) 0 0])]) 46 (Array.mk [14]) (rfA (cdAt [1,1,0,1,0] (bodyOf Tryd.f105))) (rfB (cdAt [1,1,0,1,0] (bodyOf Tryd.f105))) 105))] 4 [])))) (by kernel_rfl) ?_
  refine ifB_mk (fun hb=>?_) (fun hb=>?_)
  ·have hj:j<2:=by have:=of_decide_eq_true hb; omega
   obtain ⟨dz,hdz,hd1⟩ : ∃ dz:Int,[iv (-1:Int),iv (1:Int)][j * 1]? = some (iv dz)∧(j=0∧dz = -1∨j=1∧dz=1):=by
    rcases (by omega:j=0∨j=1) with rfl | rfl
    ·exact ⟨-1,rfl,.inl ⟨rfl,rfl⟩⟩
    ·exact ⟨1,rfl,.inr ⟨rfl,rfl⟩⟩
   obtain ⟨i1,r1,r2,r3,r4,rx,ry,rz⟩:=col_at hs (hL ▸ ha)
   have hh1:=hs.2.2.1
   refine need_mk ⟨hj,onSome_mk hdz (onIntK_iv (onNat_mk hn (onSome_mk (x:=cv a) (by simp [fullR,ha]) (onCons_cons (onIntK_iv (onCons_cons (onIntK_iv (onCons_cons (onIntK_iv ?_)))))))))⟩
   rw [wrapI (n:=a.2.2+dz) (by omega) (by omega)]
   have hnext:t'.testBit 0=t'.testBit 0→addQ L t' (a.1,a.2.1,a.2.2+dz)=addU L t a (j+1):=fun _=>by
    rw [q3]
    rcases hd1 with ⟨rfl,rfl⟩ | ⟨rfl,rfl⟩ <;> rfl
   have hnext:=hnext rfl
   have hlt:=addQ_lt (L:=L) (by omega) q2 (a.1,a.2.1,a.2.2+dz)
   refine onNum (t:=(a.1,a.2.1,a.2.2+dz)) (fun m hm=>?_) (fun hm=>?_)
   ·have hml:m<16:=by have:=(List.getElem?_eq_some_iff.1 (pos_some hm)).1; omega
    refine onIntK_iv (with119 q2 hml (onIntK_u16 ?_))
    rw [wrapI (by omega) (by omega)]
    unfold addQ at hnext hlt
    rw [hm] at hnext hlt
    exact hJ2 (t' ||| 1 <<< m,j+1) ⟨by simp only; omega,hlt,hnext⟩ (by simp only; omega)
   ·rw [wrapI (by omega) (by omega)]
    unfold addQ at hnext hlt
    rw [hm] at hnext hlt
    exact hJ2 (t', j+1) ⟨by simp only; omega,hlt,hnext⟩ (by simp only; omega)
  ·have hj:j=2:=by have:=of_decide_eq_false hb; omega
   subst hj
   have e:IntKind.u16.wrap ((BitVec.ofInt 16 (s' : Int) &&& BitVec.ofInt 16 (IntKind.u16.wrap ((s' : Int) - (1:Int)))).toNat:Int)=((s' &&& (s' - 1):Nat):Int):=by
    have h1:IntKind.u16.wrap ((s' : Int) - (1:Int))=((s' - 1:Nat):Int):=by rw [wrap_u16]; omega
    have h2:s' &&& (s' - 1)<65536:=Nat.lt_of_le_of_lt Nat.and_le_left k1
    rw [h1,BitVec.toNat_and,bv16 k1,bv16 (by omega),wrap_u16]
    omega
   rw [e]
   have hd:=drop_lt h0
   refine hJ (s' &&& (s' - 1),t') ⟨by simp only; omega,q2,fun m hm=>?_,fun m=>?_⟩ hd
   ·simp only at hm
    rw [drop_bit h0 k1,Bool.and_eq_true] at hm
    exact k3 m hm.1
   ·simp only
    rw [q3,addU_bit hnd t ha m,k4 m]
    constructor
    ·rintro (⟨x,h1,h2,h3⟩ | h)
     ·exact ⟨x,h1,by rw [drop_bit h0 k1,h2]; rfl,h3⟩
     ·exact ⟨lowB s', k3 _ l2,by rw [drop_bit h0 k1]; simp,h⟩
    ·rintro ⟨x,h1,h2,h3⟩
     rw [drop_bit h0 k1] at h2
     by_cases hx:s'.testBit x=true
     ·rw [hx,Bool.true_and,decide_eq_false_iff_not,Decidable.not_not] at h2
      rw [h2] at h3
      exact .inr h3
     ·exact .inl ⟨x,h1,by simpa using hx,h3⟩
 ·have h0:s' = 0:=by
   have:(s' : Int)=0:=by simpa using hb
   omega
  have:t=tchN L s:=by
   refine Nat.eq_of_testBit_eq fun m=>?_
   rw [Bool.eq_iff_iff,k4 m,tchN_bit,h0]
   simp
  rw [← this] at hR
  exact hR
theorem refFull25 {w d h:Int} {u:Nat} {c:List Nat} {R:V→Prop} (hu:u=1∨c=[]) (hc:c.length≤1000000) (hR:R (iv (fullN c:Int))):K0G Tryd.prog glX 39 [.agg [iv w,iv d,iv h,.lst u (nb c)]] R:=by
 refine K0_of_WY0 hmX hcK 3000 Tryd.func39 (see (p:=La 0 [(1:Tmp),(3:Tmp),(4:Tmp)] (WY Tryd.prog cfK 2994 (Env.mk (Bs.mk 0 []) 0 none 21 39 0) (cdAt [1,1,0,1,0,0] (bodyOf Tryd.f39))) (Qblk 0 (Qthen (WY Tryd.prog cfK 2997 (Env.mk (Bs.mk 0 []) 0 none 21 39 0) (cdAt [1,1,1] (bodyOf Tryd.f39)) (QendX Tryd.prog Tryd.f39 fun v h=>R (frzW h v))) (QendX Tryd.prog Tryd.f39 fun v h=>R (frzW h v)))) (St.mk (mkT [(1,V.ptr (Id.p 0) 0 0),(3,iv (0:Int)),(4,iv (0:Int))]) (Hp.mk [(0,O.rows 4 false [[iv w,iv d,iv h,V.lst u (nb c)]])] 1 []))) (by kernel_rfl) ?_)
 refine La.of (σ:=Int×Nat) (fun x=>sh25 w d h u c x.1 x.2) (fun x=>x.2≤c.length∧x.1=fullN (c.take x.2)) (fun x=>c.length - x.2) (0,0) (by kernel_rfl) ⟨by simp,by simp [fullN]⟩ ?_
 rintro ⟨n,k⟩ ⟨g1,g2⟩ J hJ
 simp only at g1 g2
 refine see (p:=ifB (decide ((↑k:Int)<(↑(nb c).length:Int))) (need (u=1) (onSome (nb c)[k]? fun row=>onSome row[0]? fun v=>onIntK IntKind.u8 v fun n_1=>ifB (n_1 != (0:Int)) (J (St.mk (mkT [(1,V.ptr (Id.p 0) 0 0),(3,iv (IntKind.i64.wrap (n+(1:Int)))),(4,iv (IntKind.i64.wrap ((↑k:Int)+(1:Int))))]) (Hp.mk [(0,O.rows 4 false [[iv w,iv d,iv h,V.lst u (nb c)]])] 1 []))) (J (St.mk (mkT [(1,V.ptr (Id.p 0) 0 0),(3,iv n),(4,iv (IntKind.i64.wrap ((↑k:Int)+(1:Int))))]) (Hp.mk [(0,O.rows 4 false [[iv w,iv d,iv h,V.lst u (nb c)]])] 1 []))))) (R (iv n))) (by kernel_rfl) ?_
 refine ifB_mk (fun hb=>?_) (fun hb=>?_) <;> rw [nb_length] at hb
 ·have hlt:k<c.length:=by have:=of_decide_eq_true hb; omega
  have e1:c[k]? = some (c.getD k 0):=by simp [List.getD,hlt]
  have hu1:u=1:=hu.resolve_right (by rintro rfl; simp at hlt)
  have hs:=fullN_snoc e1
  have hl:=fullN_le (c.take k)
  rw [List.length_take] at hl
  refine need_mk ⟨hu1,nbel e1 ?_⟩
  rw [wr1i hlt (by omega)]
  refine ifB_mk (fun hb=>?_) (fun hb=>?_)
  ·rw [wr (by omega) (by omega)]
   refine hJ (n+1,k+1) ⟨hlt,?_⟩ (by simp only; omega)
   have:c.getD k 0≠0:=by rintro e; rw [e] at hb; simp at hb
   rw [if_neg this] at hs
   simp only
   rw [hs,g2]
   rfl
  ·refine hJ (n,k+1) ⟨hlt,?_⟩ (by simp only; omega)
   have:c.getD k 0=0:=by
    have:((c.getD k 0:Nat):Int)=0:=by simpa using hb
    omega
   rw [if_pos this] at hs
   simp only
   rw [hs,g2]
   rfl
 ·have hk:k=c.length:=by have:=of_decide_eq_false hb; omega
  rw [hk,List.take_length] at g2
  rw [g2]; exact hR
theorem both49 {w d h:Int} {u:Nat} {c:List Nat} {l:List Pt} {R:V→Prop} (hu:u=1∨c=[]) (h0:ShOK w d h c→PtOK l→R (iv 0)) (h1 : ¬ ShOK w d h c→R (iv 70)) (h2:ShOK w d h c → ¬ PtOK l→R (iv 71)):K0G Tryd.prog glX 60 [.agg [iv w,iv d,iv h,.lst u (nb c)],.lst 4 (ptl l)] R:=by
 refine K0_of_WY0 hmX hcK 3000 Tryd.func60 (see (p:=K0G Tryd.prog glX 16 [V.agg [iv w,iv d,iv h,V.lst u (nb c)]] fun v=>onIntK IntKind.i64 v fun n=>ifB (n != (0:Int)) (R (iv n)) (K0G Tryd.prog glX 18 [V.lst 4 (ptl l)] fun v=>onIntK IntKind.i64 v fun n=>R (iv n))) (by kernel_rfl) ?_)
 exact check11 hu (fun q=>onIntK_iv (ifB_f rfl (check13 (fun r=>onIntK_iv (h0 q r)) (fun r=>onIntK_iv (h2 q r))))) (fun q=>onIntK_iv (ifB_t rfl (h1 q)))
abbrev Pc:=Nat×C3×Bool×Nat×Nat
def pcK (x:Pc):V := .agg [iv (x.1:Int),iv x.2.1.1,iv x.2.1.2.1,iv x.2.1.2.2,bv x.2.2.1]
def pcR (x:Pc):List V:=[iv (x.1:Int),iv x.2.1.1,iv x.2.1.2.1,iv x.2.1.2.2,bv x.2.2.1,u16v x.2.2.2.1,u16v x.2.2.2.2]
def pieE (l:List Pc):List (V×V):=l.map fun x=>(pcK x,V.agg (pcR x))
def onePc (L:List C3) (C:Nat→Nat) (l:List Pt) (k:Nat) (t:C3) (i:Nat) (b:Bool):List Pc:=match l[i]? with
 | some p=>match fitS L C p k t b with
  | some s=>[(i,t,b,s,tchN L s)]
  | none=>[]
 | none=>[]
def plPc (L:List C3) (C:Nat→Nat) (l:List Pt) (k:Nat) (t:C3) (i:Nat):List Pc:=onePc L C l k t i false++onePc L C l k t i true
def upPc (L:List C3) (C:Nat→Nat) (l:List Pt) (k:Nat) (t:C3) (i:Nat):List Pc:=(List.range i).flatMap (plPc L C l k t)
def cellPc (L:List C3) (C:Nat→Nat) (l:List Pt) (k:Nat):List Pc:=match L[k]? with
 | some t=>upPc L C l k t l.length
 | none=>[]
def allPc (L:List C3) (C:Nat→Nat) (l:List Pt) (n:Nat):List Pc:=(List.range n).flatMap (cellPc L C l)
def turnPc (L:List C3) (C:Nat→Nat) (l:List Pt) (k:Nat) (t:C3) (i:Nat):Nat→List Pc
 | 0=>[]
 | 1=>onePc L C l k t i false
 | _=>plPc L C l k t i
theorem upPc_succ (L:List C3) (C:Nat→Nat) (l:List Pt) (k:Nat) (t:C3) (i:Nat):upPc L C l k t (i+1)=upPc L C l k t i++plPc L C l k t i:=by
 unfold upPc; rw [List.range_succ,List.flatMap_append]; simp
theorem allPc_succ (L:List C3) (C:Nat→Nat) (l:List Pt) (n:Nat):allPc L C l (n+1)=allPc L C l n++cellPc L C l n:=by
 unfold allPc; rw [List.range_succ,List.flatMap_append]; simp
theorem mem_onePc {L:List C3} {C:Nat→Nat} {l:List Pt} {k i:Nat} {t:C3} {b:Bool} {x:Pc} (h:x∈onePc L C l k t i b):x.1=i∧x.2.1=t∧x.2.2.1=b:=by
 unfold onePc at h
 split at h
 ·split at h
  ·simp at h; subst h; exact ⟨rfl,rfl,rfl⟩
  ·simp at h
 ·simp at h
theorem mem_upPc {L:List C3} {C:Nat→Nat} {l:List Pt} {k i:Nat} {t:C3} {x:Pc} (h:x∈upPc L C l k t i):x.1<i∧x.2.1=t:=by
 unfold upPc at h
 rw [List.mem_flatMap] at h
 obtain ⟨j,hj,hx⟩:=h
 rw [List.mem_range] at hj
 unfold plPc at hx
 rcases List.mem_append.1 hx with hx | hx
 ·obtain ⟨e1,e2,_⟩:=mem_onePc hx; exact ⟨by omega,e2⟩
 ·obtain ⟨e1,e2,_⟩:=mem_onePc hx; exact ⟨by omega,e2⟩
theorem mem_allPc {L:List C3} {C:Nat→Nat} {l:List Pt} {n:Nat} {x:Pc} (h:x∈allPc L C l n) : ∃ k t,k<n∧L[k]? = some t∧x.2.1=t∧x.1<l.length:=by
 unfold allPc at h
 rw [List.mem_flatMap] at h
 obtain ⟨k,hk,hx⟩:=h
 unfold cellPc at hx
 split at hx
 ·rename_i t ht
  have:=mem_upPc hx
  exact ⟨k,t,List.mem_range.1 hk,ht,this.2,this.1⟩
 ·simp at hx
theorem eq100 (x y:Pc):eqC Tryd.prog 8 100 (pcK x) (pcK y)=some (((x.1:Int)==(y.1:Int))&&((x.2.1.1==y.2.1.1&&(x.2.1.2.1==y.2.1.2.1&&(x.2.1.2.2==y.2.1.2.2&&true)))&&((x.2.2.1==y.2.2.1)&&true))):=by kernel_rfl
def sameL (x y:Pc):Prop:=x.1=y.1∧x.2.1=y.2.1∧x.2.2.1=y.2.2.1
instance (x y:Pc):Decidable (sameL x y):=by unfold sameL; exact inferInstance
theorem eq100b (x y:Pc):(((x.1:Int)==(y.1:Int))&&((x.2.1.1==y.2.1.1&&(x.2.1.2.1==y.2.1.2.1&&(x.2.1.2.2==y.2.1.2.2&&true)))&&((x.2.2.1==y.2.2.1)&&true)))=decide (sameL x y):=by
 rw [Bool.eq_iff_iff]
 obtain ⟨a,⟨b,c,d⟩,e,f,g⟩:=x
 obtain ⟨a', ⟨b', c', d'⟩,e', f', g'⟩:=y
 simp [sameL]
 omega
theorem find_pie (x:Pc) : ∀ (l:List Pc) (j:Nat),findK Tryd.prog 100 (pcK x) (pieE l) j=some ((l.findIdx? fun y=>decide (sameL x y)).map fun n=>(j+n,pcK (l.getD n x),V.agg (pcR (l.getD n x))))
 | [],j=>rfl
 | y::l,j=>by
  unfold pieE
  rw [List.map_cons,findK_cons (eq100 x y),eq100b,List.findIdx?_cons]
  by_cases e:sameL x y
  ·simp [e]
  ·have ih:=find_pie x l (j+1)
   unfold pieE at ih
   simp only [e,decide_false,cond_false,ih,Bool.false_eq_true,if_false,Option.map_map]
   congr 2
   funext n
   simp only [Function.comp_apply,Prod.mk.injEq,List.getD_cons_succ,and_true]
   omega
theorem onPie_new {l:List Pc} {x:Pc} {K:Nat→V→V→Prop} {N:Prop} (h : ∀ y∈l, ¬ sameL x y) (hN:N):onFind (findK Tryd.prog 100 (pcK x) (pieE l) 0) K N:=by
 rw [find_pie]
 have:(l.findIdx? fun y=>decide (sameL x y))=none:=by
  rw [List.findIdx?_eq_none_iff]
  intro y hy
  simpa using h y hy
 rw [this]
 exact hN
theorem good_num (L:List C3) (tk:List Nat) (B:Nat) (o:Bool):(numE L).all (goodE tk B o)=true:=by
 rw [List.all_eq_true]
 intro e he
 obtain ⟨p,_,rfl⟩:=List.mem_map.1 he
 rfl
theorem good_pie (l:List Pc) (tk:List Nat) (B:Nat) (o:Bool):(pieE l).all (goodE tk B o)=true:=by
 rw [List.all_eq_true]
 intro e he
 obtain ⟨p,_,rfl⟩:=List.mem_map.1 he
 rfl
theorem cl_num (L:List C3):(numE L).all closedE=true:=by
 rw [List.all_eq_true]
 intro e he
 obtain ⟨p,_,rfl⟩:=List.mem_map.1 he
 rfl
theorem cl_pie (l:List Pc):(pieE l).all closedE=true:=by
 rw [List.all_eq_true]
 intro e he
 obtain ⟨p,_,rfl⟩:=List.mem_map.1 he
 rfl
theorem trM_num (L:List C3) (tk:List Nat) (B n:Nat):trM tk B n (numE L)=numE L:=by
 unfold trM
 refine (List.map_congr_left (g:=id) fun e he=>?_).trans (List.map_id _)
 obtain ⟨p,_,rfl⟩:=List.mem_map.1 he
 rfl
theorem trM_pie (l:List Pc) (tk:List Nat) (B n:Nat):trM tk B n (pieE l)=pieE l:=by
 unfold trM
 refine (List.map_congr_left (g:=id) fun e he=>?_).trans (List.map_id _)
 obtain ⟨p,_,rfl⟩:=List.mem_map.1 he
 rfl
theorem pie_app (l:List Pc) (x:Pc):pieE l++[(pcK x,V.agg (pcR x))]=pieE (l++[x]):=by simp [pieE]
theorem sub_full (L:List C3):sub (fullR L) 0 L.length=fullR L:=by
 unfold sub
 rw [List.drop_zero,List.take_of_length_le (by simp [fullR])]
theorem fmpV_num (L:List C3):fmpV (numE L) = .fmp (numE L):=by
 have:=cl_num L
 unfold fmpV
 rw [show ((numE L).all fun kv=>kv.1.closed&&kv.2.closed)=true from this]; rfl
theorem fmpV_pie (l:List Pc):fmpV (pieE l) = .fmp (pieE l):=by
 have:=cl_pie l
 unfold fmpV
 rw [show ((pieE l).all fun kv=>kv.1.closed&&kv.2.closed)=true from this]; rfl
def CellP (ms:List (Option (List (List V)))) (m:List Pc) (row:List V):Prop:=(m=[]∧row=[nilS])∨(m≠[] ∧ ∃ j,row=[.sl (.m 0 j) 0 m.length]∧memb ms j=some (m.map pcR))
structure BegOK (N:Nat) (f:Nat→List Pc) (r:List (List V)) (ms:List (Option (List (List V)))):Prop where
 len:r.length=N
 cell : ∀ n,n<N → ∃ row,r[n]? = some row∧CellP ms (f n) row
 apart : ∀ g g' j n n' : Nat,r[g]? = some [V.sl (.m 0 j) 0 n]→r[g']? = some [V.sl (.m 0 j) 0 n']→g=g'
theorem BegOK.row {N:Nat} {f:Nat→List Pc} {r:List (List V)} {ms:List (Option (List (List V)))} (h:BegOK N f r ms) {row:List V} (hm:row∈r) : ∃ m,CellP ms m row:=by
 obtain ⟨g,hg,rfl⟩:=List.getElem_of_mem hm
 obtain ⟨row,h1,h2⟩:=h.cell g (by rw [← h.len]; exact hg)
 rw [List.getElem?_eq_getElem hg] at h1
 cases h1
 exact ⟨_,h2⟩
theorem BegOK.good {N:Nat} {f:Nat→List Pc} {r:List (List V)} {ms:List (Option (List (List V)))} (h:BegOK N f r ms) (tk:List Nat):r.all (goodR tk 0 true)=true:=by
 rw [List.all_eq_true]
 intro row hrow
 obtain ⟨m,hm⟩:=h.row hrow
 rcases hm with ⟨_,rfl⟩ | ⟨_,j,rfl,_⟩ <;> rfl
theorem BegOK.tr {N:Nat} {f:Nat→List Pc} {r:List (List V)} {ms:List (Option (List (List V)))} (h:BegOK N f r ms) (tk:List Nat) (n:Nat):trR tk 0 n r=r:=by
 unfold trR
 refine (List.map_congr_left (g:=id) fun row hrow=>?_).trans (List.map_id _)
 obtain ⟨m,hm⟩:=h.row hrow
 rcases hm with ⟨_,rfl⟩ | ⟨_,j,rfl,_⟩ <;> rfl
theorem BegOK.congr {N:Nat} {f f' : Nat→List Pc} {r:List (List V)} {ms:List (Option (List (List V)))} (h:BegOK N f r ms) (hf : ∀ n,n<N→f n=f' n):BegOK N f' r ms :=
 ⟨h.len,fun n hn=>by rw [← hf n hn]; exact h.cell n hn,h.apart⟩
theorem memb_none {ms:List (Option (List (List V)))} {es:List (List V)}:memb ms ms.length≠some es:=fun h=>absurd (memb_lt h) (Nat.lt_irrefl _)
theorem memb_app {ms l:List (Option (List (List V)))} {j:Nat} {es:List (List V)} (h:memb ms j=some es):memb (ms++l) j=some es:=by
 have hj:=memb_lt h
 unfold memb at h ⊢
 rw [List.getElem?_append_left hj]; exact h
theorem memb_last {ms l:List (Option (List (List V)))} {x:Option (List (List V))}:memb (ms++x::l) ms.length=x:=by
 unfold memb
 rw [List.getElem?_append_right (Nat.le_refl _),Nat.sub_self]; rfl
theorem BegOK.push {N:Nat} {f:Nat→List Pc} {r:List (List V)} {ms ms' : List (Option (List (List V)))} (h:BegOK N f r ms) {k:Nat} (hk:k<N) {x:Pc} {J:Nat} (hJ:memb ms' J=some ((f k++[x]).map pcR)) (hJn : ∀ es,memb ms J≠some es)
  (hkp : ∀ g j n es,g≠k→r[g]? = some [V.sl (.m 0 j) 0 n]→memb ms j=some es→memb ms' j=some es):BegOK N (fun n=>if n=k then f k++[x] else f n) (r.set k [V.sl (.m 0 J) 0 ((f k).length+1)]) ms' := by
 have old : ∀ g j n,r[g]? = some [V.sl (.m 0 j) 0 n]→j≠J:=fun g j n hr he=>by
  have hg:g<N:=by rw [← h.len]; exact (List.getElem?_eq_some_iff.1 hr).1
  obtain ⟨row,h1,h2⟩:=h.cell g hg
  rw [hr] at h1
  cases h1
  rcases h2 with ⟨_,h3⟩ | ⟨_,j', h3,h4⟩
  ·cases h3
  ·cases h3
   subst he
   exact hJn _ h4
 refine ⟨by rw [List.length_set]; exact h.len,fun g hg=>?_,fun g1 g2 j n n' h1 h2=>?_⟩
 ·by_cases he:g=k
  ·subst he
   rw [if_pos rfl]
   exact ⟨_,by rw [List.getElem?_set_self (by rw [h.len]; exact hg)],.inr ⟨by simp,J,by simp,hJ⟩⟩
  ·rw [if_neg he]
   obtain ⟨row,h1,h2⟩:=h.cell g hg
   refine ⟨row,by rw [List.getElem?_set_ne (fun e=>he e.symm)]; exact h1,?_⟩
   rcases h2 with h2 | ⟨h3,j,h4,h5⟩
   ·exact .inl h2
   ·exact .inr ⟨h3,j,h4,hkp g j _ _ he (by rw [h1,h4]) h5⟩
 ·by_cases e1:g1=k
  ·by_cases e2:g2=k
   ·rw [e1,e2]
   ·subst e1
    rw [List.getElem?_set_ne (fun e=>e2 e.symm)] at h2
    rw [List.getElem?_set_self (by rw [h.len]; exact hk)] at h1
    cases h1
    exact (old _ _ _ h2 rfl).elim
  ·by_cases e2:g2=k
   ·subst e2
    rw [List.getElem?_set_ne (fun e=>e1 e.symm)] at h1
    rw [List.getElem?_set_self (by rw [h.len]; exact hk)] at h2
    cases h2
    exact (old _ _ _ h1 rfl).elim
   ·rw [List.getElem?_set_ne (fun e=>e1 e.symm)] at h1
    rw [List.getElem?_set_ne (fun e=>e2 e.symm)] at h2
    exact h.apart _ _ _ _ _ h1 h2
theorem cellOn {N:Nat} {f:Nat→List Pc} {r:List (List V)} {ms:List (Option (List (List V)))} (h:BegOK N f r ms) {k:Nat} (hk:k<N) {P:Prop} {Q:Nat→Nat→Prop} (hp:f k=[]→r[k]? = some [nilS]→P) (hq : ∀ j,f k≠[]→r[k]? = some [.sl (.m 0 j) 0 (f k).length]→memb ms j=some ((f k).map pcR)→Q j (f k).length) :
  onSome r[0+k]? fun row=>onSome row[0]? fun v=>onMem 0 v P Q:=by
 obtain ⟨row,h1,h2⟩:=h.cell k hk
 rw [Nat.zero_add]
 rcases h2 with ⟨h2,rfl⟩ | ⟨h2,j,rfl,h3⟩
 ·exact onSome_mk h1 (onSome_mk (x:=nilS) rfl (hp h2 h1))
 ·exact onSome_mk h1 (onSome_mk (x := .sl (.m 0 j) 0 (f k).length) rfl (hq j h2 h1 h3))
theorem good_set {N:Nat} {f:Nat→List Pc} {r:List (List V)} {ms:List (Option (List (List V)))} (h:BegOK N f r ms) {k a b n:Nat} {row:List V} (hr:r[k]? = some row):(r.set k (V.sl (Id.p a) 0 n::(List.append []) (List.drop 1 row))).all (goodR [a,b] 0 true)=true:=by
 have hrow:row.drop 1=[]:=by
  obtain ⟨m,hm⟩:=h.row (List.mem_of_getElem? hr)
  rcases hm with ⟨_,rfl⟩ | ⟨_,j,rfl,_⟩ <;> rfl
 rw [hrow,List.all_eq_true]
 intro x hx
 rcases List.mem_or_eq_of_mem_set hx with hx | rfl
 ·exact List.all_eq_true.1 (h.good [a,b]) x hx
 ·have:posOf [a,b] a=some 0:=by simp [posOf]
  simp [goodR,goodV,this]
theorem tr_set {N:Nat} {f:Nat→List Pc} {r:List (List V)} {ms:List (Option (List (List V)))} (h:BegOK N f r ms) {k a b n L:Nat} {row:List V} (hr:r[k]? = some row):trR [a,b] 0 L (r.set k (V.sl (Id.p a) 0 n::(List.append []) (List.drop 1 row)))=r.set k [V.sl (.m 0 L) 0 n]:=by
 have hrow:row.drop 1=[]:=by
  obtain ⟨m,hm⟩:=h.row (List.mem_of_getElem? hr)
  rcases hm with ⟨_,rfl⟩ | ⟨_,j,rfl,_⟩ <;> rfl
 have h1:=h.tr [a,b] L
 unfold trR at h1 ⊢
 rw [hrow,List.map_set,h1]
 have:posOf [a,b] a=some 0:=by simp [posOf]
 simp [trMv,this]
def begC (m:List Pc):V:=match m with
 | []=>nilS
 | _ => .lst 7 (m.map pcR)
def begR (N:Nat) (f:Nat→List Pc):List (List V):=(List.range N).map fun n=>[begC (f n)]
theorem beg_end {N:Nat} {f:Nat→List Pc} {r:List (List V)} {ms:List (Option (List (List V)))} {τ:Clean.Id→Tr} (h:BegOK N f r ms) (hτ : ∀ j es,memb ms j=some es→τ (.m 0 j) = .frz 7 es):sub (List.map (trL τ) r) 0 N=begR N f:=by
 have hl:=h.len
 have h1:sub (List.map (trL τ) r) 0 N=List.map (trL τ) r:=by
  unfold sub
  rw [List.drop_zero,List.take_of_length_le (by simp [hl])]
 rw [h1]
 refine List.ext_getElem? fun g=>?_
 by_cases hg:g<N
 ·obtain ⟨row,h2,h3⟩:=h.cell g hg
  rw [List.getElem?_map,h2,begR,List.getElem?_map,List.getElem?_range hg]
  show some (trL τ row)=some [begC (f g)]
  generalize f g=m at h3
  rcases h3 with ⟨rfl,rfl⟩ | ⟨h4,j,rfl,h5⟩
  ·rfl
  ·have h6:trL τ [V.sl (.m 0 j) 0 m.length]=[V.lst 7 (sub (m.map pcR) 0 m.length)]:=by simp [trL,V.tr,hτ j _ h5]
   have h7:sub (m.map pcR) 0 m.length=m.map pcR:=by unfold sub; rw [List.drop_zero,List.take_of_length_le (by simp)]
   rw [h6,h7]
   cases m with
   | nil=>exact (h4 rfl).elim
   | cons a t=>rfl
 ·rw [List.getElem?_eq_none (by simp; omega),List.getElem?_eq_none (by simp [begR]; omega)]
def wallAt (L:List C3) (k:Nat) (t:C3) (x y:Int):List WL:=match pos L (t.1+x,t.2.1+y,t.2.2),pos L (t.1,t.2.1,t.2.2+1),pos L (t.1+x,t.2.1+y,t.2.2+1) with
 | some a,some b,some c=>[((k:Int),(a:Int),(b:Int),(c:Int))]
 | _,_,_=>[]
def wallJ (L:List C3) (k:Nat) (t:C3):Nat→List WL
 | 0=>[]
 | 1=>wallAt L k t 1 0
 | _=>wallAt L k t 1 0++wallAt L k t 0 1
def wallK (L:List C3) (k:Nat):List WL:=match L[k]? with
 | some t=>wallJ L k t 2
 | none=>[]
def wallU (L:List C3) (n:Nat):List WL:=(List.range n).flatMap (wallK L)
theorem wallU_succ (L:List C3) (n:Nat):wallU L (n+1)=wallU L n++wallK L n:=by
 unfold wallU; rw [List.range_succ,List.flatMap_append]; simp
def wlV (ws:List WL):V:=match ws with
 | []=>nilS
 | _ => .lst 4 (wlR ws)
end Go.Proofs.YtkkgicjioajimaaDoor
