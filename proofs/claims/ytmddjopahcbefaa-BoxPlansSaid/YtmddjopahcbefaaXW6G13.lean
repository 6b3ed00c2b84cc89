/- A part of the proof. -/
import Derived.Test.YtmddjopahcbefaaProg
import Derived.Test.YtmddjopahcbefaaXW6G9
import Derived.Test.YtmddjopahcbefaaXW6G10
import Derived.Test.YtmddjopahcbefaaXW6G11
import Derived.Test.YtmddjopahcbefaaXW6G12
namespace Go.Proofs.Ytmddjopahcbefaa
open Go Go.Proofs.Ytmddjopahcbefaa.Clean
set_option linter.unusedVariables false
set_option linter.unusedSimpArgs false
set_option maxRecDepth 10000
def tk (n i:Nat):List Nat:=(List.range i).filter fun j=>n.testBit j
theorem tk_mem {n i j:Nat}:j∈tk n i↔j<i∧n.testBit j=true:=by simp [tk,List.mem_filter]
theorem tk_succ (n i:Nat):tk n (i+1)=if n.testBit i=true then tk n i++[i] else tk n i:=by
 unfold tk
 rw [List.range_succ,List.filter_append]
 cases h:n.testBit i <;> simp [h]
theorem tk_all {n L:Nat} (h8:L≤8) (hn:n<2 ^ L):tk n L=bl8 n:=by
 refine sorted_ext (List.Pairwise.filter _ List.pairwise_lt_range) (bl8_sorted n) (fun i=>?_)
 have e:i∈(List.range L).filter (fun j=>n.testBit j)↔i<L∧n.testBit i=true:=by simp [List.mem_filter]
 show i∈(List.range L).filter (fun j=>n.testBit j)↔_
 rw [e,bl8_mem]
 exact ⟨fun q=>⟨by omega,q.2⟩,fun q=>⟨bit_lt hn q.2,q.2⟩⟩
theorem tk_len (n i:Nat):(tk n i).length≤i:=by
 have:=List.length_filter_le (fun j=>n.testBit j) (List.range i)
 rw [List.length_range] at this
 exact this
theorem bit_at : ∀ i,i<8 → ∀ n,n<256→((((n:Nat):Int).fdiv ((2:Int) ^ min ((i:Nat):Int).toNat 64)).tmod (2:Int)==(1:Int))=n.testBit i:=by decide +kernel
def valT (v:List Int) (q:List Nat):Int:=sumN (fun i=>v.getD i 0) q
theorem valT_snoc (v:List Int) (q:List Nat) (i:Nat):valT v (q++[i])=valT v q+v.getD i 0:=by simp [valT,sumN]
theorem valT_bd {v:List Int} (hv : ∀ x∈v,0≤x∧x≤1000) (q:List Nat):0≤valT v q∧valT v q≤(q.length:Int) * 1000:=sumN_bd (fun i=>getD_bd hv i) q
def keyT (v:List Int) (n:Nat):Int×List Nat:=(valT v (bl8 n),bl8 n)
def FitC (a:List It) (p:List (List It)) (n:Nat):Prop:=Built a p (wS p.length (bl8 n) []) 1
def resT (a:List It) (p:List (List It)) (n:Nat):List It:=resF p (wS p.length (bl8 n) []) 1 a
noncomputable def fam27 (a:List It) (p:List (List It)) (v:List Int) (s:Nat×Option (Nat×Nat)):St:=match s.2 with
 | none=>shB0 a p v s.1
 | some (n0,d)=>match bl8 n0 with
  | []=>shB1 a p v (valT v (bl8 n0)) d (resT a p n0) s.1
  | x::r=>shB2 a p v (x::r) (valT v (bl8 n0)) d (resT a p n0) s.1
theorem fam27_e {a:List It} {p:List (List It)} {v:List Int} {m n0 d:Nat} (h:bl8 n0=[]):fam27 a p v (m,some (n0,d))=shB1 a p v (valT v (bl8 n0)) d (resT a p n0) m:=by
 unfold fam27
 simp only
 split
 ·rfl
 ·rename_i e; rw [h] at e; cases e
theorem fam27_s {a:List It} {p:List (List It)} {v:List Int} {m n0 d:Nat} (h:bl8 n0≠[]):fam27 a p v (m,some (n0,d))=shB2 a p v (bl8 n0) (valT v (bl8 n0)) d (resT a p n0) m:=by
 unfold fam27
 simp only
 split
 ·rename_i e; exact (h e).elim
 ·rename_i e; rw [e]
def InvC (a:List It) (p:List (List It)) (v:List Int) (s:Nat×Option (Nat×Nat)):Prop:=match s.2 with
 | none => ∀ n', n' < s.1 → ¬ FitC a p n'
 | some (n0,d)=>n0<s.1∧FitC a p n0∧(d=3∨resT a p n0=[]) ∧ ∀ n', n' < s.1→FitC a p n' → ¬ Bet (keyT v n') (keyT v n0)
theorem riL_nilS {F:Nat→Prop} {w:World} {s:Nat} {r:List V} {xs:List Value} (hx:riL F w (nilS::r) xs):riL F w (.lst s (nn [])::r) xs:=by
 rw [riL] at hx ⊢
 obtain ⟨x,ys,g1,g2,g3⟩:=hx
 refine ⟨x,ys,g1,?_,g3⟩
 simp only [ri,nilS] at g2
 subst g2
 simp [ri,nn]
theorem riL_two {F:Nat→Prop} {w:World} {s:Nat} {u:V} {xs:List Value} (hx:riL F w [u,nilS] xs):riL F w [u,.lst s (nn [])] xs:=by
 rw [riL] at hx ⊢
 obtain ⟨x,ys,g1,g2,g3⟩:=hx
 exact ⟨x,ys,g1,g2,riL_nilS g3⟩
theorem first75n {b:List Nat} {s:Nat} {R:V→Prop} (hs:s=1∨b=[]) (h:R (bv (dcM (FstP [] b)))):K0G Try.prog glX 75 [nilS,.lst s (nn b)] R:=K0_args (first75 (u:=0) (a:=[]) (.inr rfl) hs (by simp) h) (fun F w xs hx=>riL_nilS hx)
theorem first75nn {R:V→Prop} (h:R (bv (dcM (FstP [] [])))):K0G Try.prog glX 75 [nilS,nilS] R:=K0_args (first75n (s:=0) (b:=[]) (.inr rfl) h) (fun F w xs hx=>riL_two hx)
theorem first75m {a:List Nat} {u:Nat} {R:V→Prop} (hu:u=1∨a=[]) (ha:a.length≤1000) (h:R (bv (dcM (FstP a [])))):K0G Try.prog glX 75 [.lst u (nn a),nilS] R:=K0_args (first75 (s:=0) (b:=[]) hu (.inr rfl) ha h) (fun F w xs hx=>riL_two hx)
theorem sub_nn (q:List Nat):sub (nn q) 0 q.length=nn q:=by rw [← nn_length]; exact sub_all _
noncomputable def fc0 (a:List It) (p:List (List It)) (v:List Int) (n L:Nat) (w:List Nat) (y:Int) (r:List Nat) (i:Nat):St:=match r with | []=>shC0n a p v n L w y i | x::t=>shC0s a p v n L w y (x::t) i
theorem fc0_s {a:List It} {p:List (List It)} {v:List Int} {n L:Nat} {w:List Nat} {y:Int} {r:List Nat} {i:Nat} (h:r≠[]):fc0 a p v n L w y r i=shC0s a p v n L w y r i:=by cases r with | nil=>exact (h rfl).elim | cons x t=>rfl
noncomputable def fc1 (a:List It) (p:List (List It)) (v:List Int) (z:Int) (d:Nat) (l:List It) (n L:Nat) (w:List Nat) (y:Int) (r:List Nat) (i:Nat):St:=match r with | []=>shC1n a p v z d l n L w y i | x::t=>shC1s a p v z d l n L w y (x::t) i
theorem fc1_s {a:List It} {p:List (List It)} {v:List Int} {z:Int} {d:Nat} {l:List It} {n L:Nat} {w:List Nat} {y:Int} {r:List Nat} {i:Nat} (h:r≠[]):fc1 a p v z d l n L w y r i=shC1s a p v z d l n L w y r i:=by cases r with | nil=>exact (h rfl).elim | cons x t=>rfl
noncomputable def fc2 (a:List It) (p:List (List It)) (v:List Int) (q:List Nat) (z:Int) (d:Nat) (l:List It) (n L:Nat) (w:List Nat) (y:Int) (r:List Nat) (i:Nat):St:=match r with | []=>shC2n a p v q z d l n L w y i | x::t=>shC2s a p v q z d l n L w y (x::t) i
theorem fc2_s {a:List It} {p:List (List It)} {v:List Int} {q:List Nat} {z:Int} {d:Nat} {l:List It} {n L:Nat} {w:List Nat} {y:Int} {r:List Nat} {i:Nat} (h:r≠[]):fc2 a p v q z d l n L w y r i=shC2s a p v q z d l n L w y r i:=by cases r with | nil=>exact (h rfl).elim | cons x t=>rfl
set_option maxHeartbeats 4000000 in
theorem refChoose27 {a:List It} {p:List (List It)} {v:List Int} {R:V→Prop} (hp:p.length≤1000) (hv:v.length≤1000) (bad8 : ¬ Stk a→R (.tup [.agg [nilS,iv 0,nilS],iv 8])) (bad:Stk a→eAll p v≠0→R (.tup [.agg [nilS,iv 0,nilS],iv (eAll p v)]))
  (h:Stk a→Gd p v → ∀ n0 d,n0<2 ^ p.length→FitC a p n0→(∀ n', n' < 2 ^ p.length→FitC a p n' → ¬ Bet (keyT v n') (keyT v n0))→(d=3∨resT a p n0=[])→R (.tup [.agg [lsN (bl8 n0),iv (valT v (bl8 n0)),.lst d (itl (resT a p n0))],iv 0])):K0G Try.prog glX 27 [.lst 3 (itl a),.lst 1 (pll p),.lst 1 (nl v)] R:=by
 refine K0_of_WY0 hmX hcRf 3000 Try.func27 (see (p:=K0G Try.prog glX 39 [V.lst 3 (itl a)] fun v_1=>onBool v_1 fun b=>ifB (!b) (R (V.tup [V.agg [nilS,iv (0:Int),nilS],iv (8:Int)])) (K0G Try.prog glX 73 [V.lst 1 (pll p),V.lst 1 (nl v)] fun v_2=>onIntK IntKind.i64 v_2 fun n=>ifB (n != (0:Int)) (R (V.tup [V.agg [nilS,iv (0:Int),nilS],iv n])) (La 0 [(0:Tmp),(1:Tmp),(2:Tmp),(6:Tmp),(9:Tmp),(10:Tmp)] (WY Try.prog cfR 2992 (Env.mk (Bs.mk 0 []) 0 none 96 27 0) (cdAt [1,1,1,1,0,1,0,0] (bodyOf Try.f27))) (Qblk 0 (Qthen (WY Try.prog cfR 2995 (Env.mk (Bs.mk 0 []) 0 none 96 27 0) (cdAt [1,1,1,1,1] (bodyOf Try.f27)) (QendX Try.prog Try.f27 fun v h=>R (frzW h v))) (QendX Try.prog Try.f27 fun v h=>R (frzW h v)))) (St.mk (mkT [(0,V.lst 3 (itl a)),(1,V.lst 1 (pll p)),(2,V.lst 1 (nl v)),(6,V.ptr (Id.p 0) 0 0),(9,V.ptr (Id.p 1) 0 0),(10,iv (0:Int))]) (Hp.mk [(0,O.rows 3 false [[nilS,iv (0:Int),nilS]]),(1,O.rows 3 false [[nilS,iv (-1:Int),nilS]])] 2 []))))) (by kernel_rfl) ?_)
 refine stock39x (onBool_bv (ifB_mk (fun c=>bad8 (dc_falseM (by simpa using c))) (fun c=>?_)))
 have ka:Stk a:=dc_trueM (by simpa using c)
 refine planned73 hp hv (onIntK_iv (ifB_mk (fun c=>bad ka (by simpa using c)) (fun c=>?_)))
 have hG:Gd p v:=eAll_good (by simpa using c)
 have h:=h ka hG
 clear c bad bad8
 have n8:=hG.n8
 have ka30:=ka.1
 have hpl:=pll_length p
 have h256:2 ^ p.length≤256:=Nat.pow_le_pow_right (n:=2) (by omega) n8
 have hpw:=pow64 p.length (by omega)
 obtain ⟨L,hL⟩ : ∃ L,L=p.length:=⟨_,rfl⟩
 refine La.of (σ:=Nat×Option (Nat×Nat)) (fam27 a p v) (fun s=>s.1≤2 ^ p.length∧InvC a p v s) (fun s=>2 ^ p.length - s.1) (0,none) (by kernel_rfl) ⟨by simp,fun n' hn=>by simp at hn⟩ ?_
 rintro ⟨n,best⟩ ⟨g1,g2⟩ J hJ
 simp only at g1
 have keep:n<2 ^ p.length→(FitC a p n → ∃ n0 d,best=some (n0,d) ∧ ¬ Bet (keyT v n) (keyT v n0))→J (fam27 a p v (n+1,best)):=fun hn hq=>hJ (n+1,best) ⟨hn,by
  match best,g2,hq with
  | none,g2,hq =>
   intro n' hn'
   rcases Nat.lt_succ_iff_lt_or_eq.1 hn' with q | q
   ·exact g2 n' q
   ·intro hf
    obtain ⟨n0,d,e,_⟩:=hq (q ▸ hf)
    cases e
  | some (n0,d),g2,hq =>
   obtain ⟨f1,f2,f4,f3⟩:=g2
   simp only at f1 f2 f3
   refine ⟨Nat.lt_succ_of_lt f1,f2,f4,fun n' hn' hf=>?_⟩
   rcases Nat.lt_succ_iff_lt_or_eq.1 hn' with q | q
   ·exact f3 n' q hf
   ·obtain ⟨n1,d1,e,hle⟩:=hq (q ▸ hf)
    cases e
    exact q ▸ hle⟩ (by simp only; omega)
 have take:n<2 ^ p.length→FitC a p n→(∀ n0 d,best=some (n0,d)→Bet (keyT v n) (keyT v n0)) → ∀ d,(d=3∨resT a p n=[])→J (fam27 a p v (n+1,some (n,d))):=fun hn hf hq d hd=>hJ (n+1,some (n,d)) ⟨hn,by
  refine ⟨Nat.lt_succ_self n,hf,hd,fun n' hn' hf' => ?_⟩
  rcases Nat.lt_succ_iff_lt_or_eq.1 hn' with q | q
  ·match best,g2,hq with
   | none,g2,hq=>exact (g2 n' q hf').elim
   | some (n0,d0),g2,hq=>exact fun b=>g2.2.2.2 n' q hf' (b.trans (hq n0 d0 rfl))
  ·rw [q]; exact fun b=>b.irr⟩ (by simp only; omega)
 clear hJ
 have hall:n<2 ^ p.length→tk n p.length=bl8 n:=fun hn=>tk_all n8 hn
 match best,g2,keep,take with
 | none,g2,keep,take =>
  refine see (p:=ifB (decide ((↑n:Int)<IntKind.i64.wrap ((1:Int) * (2:Int) ^ min (↑(pll p).length:Int).toNat 64))) (need ((pll p).length≤(pll p).length) (need (1 * (pll p).length≤140737488355328) (need ((pll p).length≤9223372036854775807) (La 0 [(0:Tmp),(1:Tmp),(2:Tmp),(6:Tmp),(9:Tmp),(10:Tmp),(11:Tmp),(12:Tmp),(13:Tmp)] (WY Try.prog cfR 2983 (Env.mk (Bs.mk 0 []) 0 none 96 27 2) (cdAt [1,1,1,1,0,1,0,0,1,0,0,1,1,0,1,0,0] (bodyOf Try.f27))) (Qblk 2 (Qthen (WY Try.prog cfR 2986 (Env.mk (Bs.mk 0 []) 0 none 96 27 1) (cdAt [1,1,1,1,0,1,0,0,1,0,0,1,1,1] (bodyOf Try.f27)) (Qblk 1 (Qthen (WY Try.prog cfR 2990 (Env.mk (Bs.mk 0 []) 0 none 96 27 0) (cdAt [1,1,1,1,0,1,0,0,1,1] (bodyOf Try.f27)) (Qla 0 [(0:Tmp),(1:Tmp),(2:Tmp),(6:Tmp),(9:Tmp),(10:Tmp)] J (Qblk 0 (Qthen (WY Try.prog cfR 2995 (Env.mk (Bs.mk 0 []) 0 none 96 27 0) (cdAt [1,1,1,1,1] (bodyOf Try.f27)) (QendX Try.prog Try.f27 fun v h=>R (frzW h v))) (QendX Try.prog Try.f27 fun v h=>R (frzW h v)))))) (Qla 0 [(0:Tmp),(1:Tmp),(2:Tmp),(6:Tmp),(9:Tmp),(10:Tmp)] J (Qblk 0 (Qthen (WY Try.prog cfR 2995 (Env.mk (Bs.mk 0 []) 0 none 96 27 0) (cdAt [1,1,1,1,1] (bodyOf Try.f27)) (QendX Try.prog Try.f27 fun v h=>R (frzW h v))) (QendX Try.prog Try.f27 fun v h=>R (frzW h v)))))))) (Qblk 1 (Qthen (WY Try.prog cfR 2990 (Env.mk (Bs.mk 0 []) 0 none 96 27 0) (cdAt [1,1,1,1,0,1,0,0,1,1] (bodyOf Try.f27)) (Qla 0 [(0:Tmp),(1:Tmp),(2:Tmp),(6:Tmp),(9:Tmp),(10:Tmp)] J (Qblk 0 (Qthen (WY Try.prog cfR 2995 (Env.mk (Bs.mk 0 []) 0 none 96 27 0) (cdAt [1,1,1,1,1] (bodyOf Try.f27)) (QendX Try.prog Try.f27 fun v h=>R (frzW h v))) (QendX Try.prog Try.f27 fun v h=>R (frzW h v)))))) (Qla 0 [(0:Tmp),(1:Tmp),(2:Tmp),(6:Tmp),(9:Tmp),(10:Tmp)] J (Qblk 0 (Qthen (WY Try.prog cfR 2995 (Env.mk (Bs.mk 0 []) 0 none 96 27 0) (cdAt [1,1,1,1,1] (bodyOf Try.f27)) (QendX Try.prog Try.f27 fun v h=>R (frzW h v))) (QendX Try.prog Try.f27 fun v h=>R (frzW h v))))))))) (St.mk (mkT [(0,V.lst 3 (itl a)),(1,V.lst 1 (pll p)),(2,V.lst 1 (nl v)),(6,V.ptr (Id.p 0) 0 0),(9,V.ptr (Id.p 1) 0 0),(10,iv (↑n:Int)),(11,V.sl (Id.p 2) 0 (pll p).length),(12,V.ptr (Id.p 3) 0 0),(13,iv (0:Int))]) (Hp.mk [(0,O.rows 3 false [[nilS,iv (0:Int),nilS]]),(1,O.rows 3 false [[nilS,iv (-1:Int),nilS]]),(2,O.rows 1 true (List.replicate (pll p).length [V.raw (Value.int IntKind.u8 (0:Int))])),(3,O.rows 3 false [[nilS,iv (0:Int),nilS]])] 4 [])))))) (R (V.tup [V.agg [nilS,iv (-1:Int),nilS],iv (0:Int)]))) (by kernel_rfl) ?_
  rw [hpl,hpw]
  rcases hd:decide ((n:Int)<((2 ^ p.length:Nat):Int)) with _ | _
  ·refine ifB_f rfl ?_
   have hn:n=2 ^ p.length:=by have:=of_decide_eq_false hd; omega
   exfalso
   refine g2 0 (by simp only; rw [hn]; exact Nat.two_pow_pos _) (fun i l hl hw x hx=>?_)
   have hi:i<p.length:=(List.getElem?_eq_some_iff.1 hl).1
   have b0:bl8 0=[]:=by decide +kernel
   rw [wS_get _ _ hi,b0] at hw
   simp at hw
  refine ifB_t rfl ?_
  have hn:n<2 ^ p.length:=by have:=of_decide_eq_true hd; omega
  refine need_mk ⟨Nat.le_refl _,need_mk ⟨by omega,need_mk ⟨by omega,?_⟩⟩⟩
  rw [wS_zero p.length,← hL]
  refine La.of (σ:=Nat) (fun i=>fc0 a p v n L (wS L (tk n i) []) (valT v (tk n i)) (tk n i) i) (fun i=>i≤L) (fun i=>L - i) 0 (by simp [tk,valT,sumN]; rfl) (by omega) ?_
  rintro i f1 I hI
  obtain ⟨r,hr⟩ : ∃ r,r=tk n i:=⟨_,rfl⟩
  obtain ⟨w,hw⟩ : ∃ w,w=wS L r []:=⟨_,rfl⟩
  obtain ⟨y,hy⟩ : ∃ y,y=valT v r:=⟨_,rfl⟩
  have hrl:r.length≤8:=by have:=tk_len n i; rw [← hr] at this; omega
  have hyb:=valT_bd hG.vr r
  rw [← hy] at hyb
  have hwl:w.length=L:=by rw [hw,wS_len]
  rw [← hr,← hw,← hy]
  have next:i<L→I (fc0 a p v n L (wS L (tk n (i+1)) []) (valT v (tk n (i+1))) (tk n (i+1)) (i+1)):=fun hi=>hI (i+1) hi (by omega)
  have hrow:i<L→(ul w)[0+i]? = some [sv 0]:=fun hi=>by
   rw [Nat.zero_add,hw,ul_get (wS_get _ _ hi)]
   have : ¬ i∈r:=fun q=>by rw [hr,tk_mem] at q; omega
   simp [this]
  have hset:i<L→(ul w).set (0+i) (V.raw (Value.int IntKind.u8 (1:Int))::(List.append []) (List.drop 1 [sv 0]))=ul (wS L (r++[i]) []):=fun hi=>by
   have:=ul_setv w i 1 (row:=[sv 0]) rfl
   rw [hw,wS_set1 (S' := r++[i]) (by simp)] at this
   rw [hw]
   exact this
  have hsub:sub (ul w) 0 L=ul w:=by rw [← (show (ul w).length=L from by rw [ul_length,hwl])]; exact sub_all _
  have hn1:IntKind.i64.wrap ((n:Int)+1)=((n+1:Nat):Int):=wr1i hn (by omega)
  have hfit:i=L→(Built a p w 1↔FitC a p n):=fun hi=>by
   unfold FitC
   rw [hw,hr,hi,hL,hall hn]
  have hbl:i=L→r=bl8 n:=fun hi=>by rw [hr,hi,hL,hall hn]
  have hyv:i=L→y=valT v (bl8 n):=fun hi=>by rw [hy,hbl hi]
  have hrest:i=L→resF p w 1 a=resT a p n:=fun hi=>by
   unfold resT
   rw [hw,hr,hi,hL,hall hn]
  rcases Classical.em (r=[]) with hrn | hrn
  ·rw [hrn]
   rw [hrn,List.nil_append] at hset
   refine see (p:=ifB (decide ((↑i:Int)<(↑(pll p).length:Int))) (ifB (((↑n:Int).fdiv ((2:Int) ^ min (↑i:Int).toNat 64)).tmod (2:Int)==(1:Int)) (need (i<L) (onSome (ul w)[0+i]? fun row=>guardB ((0+1).ble row.length) (onSome (nl v)[i]? fun row_1=>onSome row_1[0]? fun v_1=>onIntK IntKind.i64 v_1 fun n_1=>I (St.mk (mkT [(0,V.lst 3 (itl a)),(1,V.lst 1 (pll p)),(2,V.lst 1 (nl v)),(6,V.ptr (Id.p 0) 0 0),(9,V.ptr (Id.p 1) 0 0),(10,iv (↑n:Int)),(11,V.sl (Id.p 2) 0 L),(12,V.ptr (Id.p 3) 0 0),(13,iv (IntKind.i64.wrap ((↑i:Int)+(1:Int))))]) (Hp.mk [(0,O.rows 3 false [[nilS,iv (0:Int),nilS]]),(1,O.rows 3 false [[nilS,iv (-1:Int),nilS]]),(2,O.rows 1 true ((ul w).set (0+i) (V.raw (Value.int IntKind.u8 (1:Int))::(List.append []) (List.drop 1 row)))),(3,O.rows 3 false [[V.sl (Id.p 4) 0 1,iv (IntKind.i64.wrap (y+n_1)),nilS]]),(4,O.rows 1 true [[iv (↑i:Int)]])] 5 []))))) (I (St.mk (mkT [(0,V.lst 3 (itl a)),(1,V.lst 1 (pll p)),(2,V.lst 1 (nl v)),(6,V.ptr (Id.p 0) 0 0),(9,V.ptr (Id.p 1) 0 0),(10,iv (↑n:Int)),(11,V.sl (Id.p 2) 0 L),(12,V.ptr (Id.p 3) 0 0),(13,iv (IntKind.i64.wrap ((↑i:Int)+(1:Int))))]) (Hp.mk [(0,O.rows 3 false [[nilS,iv (0:Int),nilS]]),(1,O.rows 3 false [[nilS,iv (-1:Int),nilS]]),(2,O.rows 1 true (ul w)),(3,O.rows 3 false [[nilS,iv y,nilS]])] 4 [])))) (K0G Try.prog glX 74 [V.lst 3 (itl a),V.lst 1 (pll p),V.lst 1 (sub (ul w) 0 L),V.raw (Value.int IntKind.u8 (1:Int))] fun v_1=>onBool v_1 fun b=>ifB b (ifB (decide (y > (-1:Int))) (K0G Try.prog glX 76 [V.lst 3 (itl a),V.lst 1 (pll p),V.lst 1 (sub (ul w) 0 L),V.raw (Value.int IntKind.u8 (1:Int))] fun v_2=>onLst v_2 fun s es=>J (St.mk (mkT [(0,V.lst 3 (itl a)),(1,V.lst 1 (pll p)),(2,V.lst 1 (nl v)),(6,V.ptr (Id.p 0) 0 0),(9,V.ptr (Id.p 1) 0 0),(10,iv (IntKind.i64.wrap ((↑n:Int)+(1:Int))))]) (Hp.mk [(0,O.rows 3 false [[nilS,iv (0:Int),nilS]]),(1,O.rows 3 false [[nilS,iv y,V.lst s es]])] 2 []))) (ifB (y==(-1:Int)) (K0G Try.prog glX 75 [nilS,nilS] fun v_2=>onBool v_2 fun b=>ifB b (K0G Try.prog glX 76 [V.lst 3 (itl a),V.lst 1 (pll p),V.lst 1 (sub (ul w) 0 L),V.raw (Value.int IntKind.u8 (1:Int))] fun v_3=>onLst v_3 fun s es=>J (St.mk (mkT [(0,V.lst 3 (itl a)),(1,V.lst 1 (pll p)),(2,V.lst 1 (nl v)),(6,V.ptr (Id.p 0) 0 0),(9,V.ptr (Id.p 1) 0 0),(10,iv (IntKind.i64.wrap ((↑n:Int)+(1:Int))))]) (Hp.mk [(0,O.rows 3 false [[nilS,iv (0:Int),nilS]]),(1,O.rows 3 false [[nilS,iv y,V.lst s es]])] 2 []))) (J (St.mk (mkT [(0,V.lst 3 (itl a)),(1,V.lst 1 (pll p)),(2,V.lst 1 (nl v)),(6,V.ptr (Id.p 0) 0 0),(9,V.ptr (Id.p 1) 0 0),(10,iv (IntKind.i64.wrap ((↑n:Int)+(1:Int))))]) (Hp.mk [(0,O.rows 3 false [[nilS,iv (0:Int),nilS]]),(1,O.rows 3 false [[nilS,iv (-1:Int),nilS]])] 2 [])))) (J (St.mk (mkT [(0,V.lst 3 (itl a)),(1,V.lst 1 (pll p)),(2,V.lst 1 (nl v)),(6,V.ptr (Id.p 0) 0 0),(9,V.ptr (Id.p 1) 0 0),(10,iv (IntKind.i64.wrap ((↑n:Int)+(1:Int))))]) (Hp.mk [(0,O.rows 3 false [[nilS,iv (0:Int),nilS]]),(1,O.rows 3 false [[nilS,iv (-1:Int),nilS]])] 2 []))))) (J (St.mk (mkT [(0,V.lst 3 (itl a)),(1,V.lst 1 (pll p)),(2,V.lst 1 (nl v)),(6,V.ptr (Id.p 0) 0 0),(9,V.ptr (Id.p 1) 0 0),(10,iv (IntKind.i64.wrap ((↑n:Int)+(1:Int))))]) (Hp.mk [(0,O.rows 3 false [[nilS,iv (0:Int),nilS]]),(1,O.rows 3 false [[nilS,iv (-1:Int),nilS]])] 2 []))))) (by kernel_rfl) ?_
   rw [hpl,← hL]
   refine ifB_mk (fun e=>?_) (fun e=>?_)
   ·have hi:i<L:=by have:=of_decide_eq_true e; omega
    have st:=next hi
    rw [tk_succ,← hr] at st
    rw [bit_at i (by omega) n (by omega),wr1i hi (by omega)]
    cases hb:n.testBit i with
    | true =>
     rw [if_pos hb,valT_snoc,← hy] at st
     have hvb:=getD_bd hG.vr i
     rw [hrn] at st
     refine ifB_t rfl (need_mk ⟨hi,onSome_mk (hrow hi) (guardB_mk rfl (iel (getVa (by rw [hG.vl]; omega)) ?_))⟩)
     rw [hset hi,wr (n:=y+_) (by omega) (by omega)]
     exact see (by kernel_rfl) st
    | false =>
     rw [if_neg (by rw [hb]; simp),← hy,← hw] at st
     refine ifB_f rfl ?_
     rw [hrn] at st
     exact see (by kernel_rfl) st
   ·have hi:i=L:=by have:=of_decide_eq_false e; omega
    have hbl:=hbl hi
    have hyv:=hyv hi
    have hrest:=hrest hi
    have hfit:=hfit hi
    rw [hsub,hn1]
    have upd:FitC a p n→(∀ n1 d1,(none:Option (Nat×Nat))=some (n1,d1)→Bet (keyT v n) (keyT v n1)) → ∀ (Q:V→Prop),(∀ vv,vv=lsI (resF p w 1 a)→Q vv)→K0G Try.prog glX 76 [.lst 3 (itl a),.lst 1 (pll p),.lst 1 (ul w),V.raw (Value.int IntKind.u8 (1:Int))] Q:=fun _ _ Q hQ=>rest76 (m:=1) ka n8 (by rw [hwl,hL]) hG.st (hQ _ rfl)
    have tak:FitC a p n→(∀ n1 d1,(none:Option (Nat×Nat))=some (n1,d1)→Bet (keyT v n) (keyT v n1)) → ∀ dd,(dd=3∨resF p w 1 a=[])→J (shB1 a p v y dd (resF p w 1 a) (n+1)):=fun q1 q2 dd hdd=>by
     have:=take hn q1 q2 dd (by rw [← hrest]; exact hdd)
     rw [fam27_e (by rw [← hbl]; exact hrn),← hyv,← hrest] at this
     exact this
    have go:FitC a p n→(∀ n1 d1,(none:Option (Nat×Nat))=some (n1,d1)→Bet (keyT v n) (keyT v n1))→K0G Try.prog glX 76 [.lst 3 (itl a),.lst 1 (pll p),.lst 1 (ul w),V.raw (Value.int IntKind.u8 (1:Int))] (fun vv=>onLst vv fun s es=>J (⟨mkT [(0,V.lst 3 (itl a)),(1,V.lst 1 (pll p)),(2,V.lst 1 (nl v)),(6,V.ptr (Id.p 0) 0 0),(9,V.ptr (Id.p 1) 0 0),(10,iv ((n+1:Nat):Int))],⟨[(0,O.rows 3 false [[nilS,iv (0:Int),nilS]]),(1,O.rows 3 false [[nilS,iv y,V.lst s es]])],2,[]⟩⟩)):=fun q1 q2=>upd q1 q2 _ (fun vv hvv=>by
     obtain ⟨dd,hdd,hN⟩:=lsI_isL (resF p w 1 a)
     rw [hvv]
     exact onLst_isL hN (see (by kernel_rfl) (tak q1 q2 dd hdd)))
    refine fits74 (m:=1) (by omega) n8 (by rw [hwl,hL]) hG.st (onBool_bv (ifB_mk (fun t=>?_) (fun t=>?_)))
    ·have hf:=hfit.1 (dc_trueM t)
     refine ifB_mk (fun t2=>?_) (fun t2=>?_)
     ·have t2:=of_decide_eq_true t2
      exact see (by kernel_rfl) (go hf (fun n1 d1 e1=>by cases e1))
     ·have t2:=of_decide_eq_false t2
      omega
    ·exact keep hn (fun hf=>(dc_falseM t (hfit.2 hf)).elim)
  ·rw [fc0_s hrn]
   refine see (p:=ifB (decide ((↑i:Int)<(↑(pll p).length:Int))) (ifB (((↑n:Int).fdiv ((2:Int) ^ min (↑i:Int).toNat 64)).tmod (2:Int)==(1:Int)) (need (i<L) (onSome (ul w)[0+i]? fun row=>guardB ((0+1).ble row.length) (need ((r.length+1) * 8≤140737488355328) (onSome (nl v)[i]? fun row_1=>onSome row_1[0]? fun v_1=>onIntK IntKind.i64 v_1 fun n_1=>I (St.mk (mkT [(0,V.lst 3 (itl a)),(1,V.lst 1 (pll p)),(2,V.lst 1 (nl v)),(6,V.ptr (Id.p 0) 0 0),(9,V.ptr (Id.p 1) 0 0),(10,iv (↑n:Int)),(11,V.sl (Id.p 2) 0 L),(12,V.ptr (Id.p 3) 0 0),(13,iv (IntKind.i64.wrap ((↑i:Int)+(1:Int))))]) (Hp.mk [(0,O.rows 3 false [[nilS,iv (0:Int),nilS]]),(1,O.rows 3 false [[nilS,iv (-1:Int),nilS]]),(2,O.rows 1 true ((ul w).set (0+i) (V.raw (Value.int IntKind.u8 (1:Int))::(List.append []) (List.drop 1 row)))),(3,O.rows 3 false [[V.sl (Id.p 4) 0 (r.length+1),iv (IntKind.i64.wrap (y+n_1)),nilS]]),(4,O.rows 1 true (List.take r.length (nn r)++[[iv (↑i:Int)]]))] 5 [])))))) (I (St.mk (mkT [(0,V.lst 3 (itl a)),(1,V.lst 1 (pll p)),(2,V.lst 1 (nl v)),(6,V.ptr (Id.p 0) 0 0),(9,V.ptr (Id.p 1) 0 0),(10,iv (↑n:Int)),(11,V.sl (Id.p 2) 0 L),(12,V.ptr (Id.p 3) 0 0),(13,iv (IntKind.i64.wrap ((↑i:Int)+(1:Int))))]) (Hp.mk [(0,O.rows 3 false [[nilS,iv (0:Int),nilS]]),(1,O.rows 3 false [[nilS,iv (-1:Int),nilS]]),(2,O.rows 1 true (ul w)),(3,O.rows 3 false [[V.sl (Id.p 4) 0 r.length,iv y,nilS]]),(4,O.rows 1 true (nn r))] 5 [])))) (K0G Try.prog glX 74 [V.lst 3 (itl a),V.lst 1 (pll p),V.lst 1 (sub (ul w) 0 L),V.raw (Value.int IntKind.u8 (1:Int))] fun v_1=>onBool v_1 fun b=>ifB b (ifB (decide (y > (-1:Int))) (K0G Try.prog glX 76 [V.lst 3 (itl a),V.lst 1 (pll p),V.lst 1 (sub (ul w) 0 L),V.raw (Value.int IntKind.u8 (1:Int))] fun v_2=>onLst v_2 fun s es=>J (St.mk (mkT [(0,V.lst 3 (itl a)),(1,V.lst 1 (pll p)),(2,V.lst 1 (nl v)),(6,V.ptr (Id.p 0) 0 0),(9,V.ptr (Id.p 1) 0 0),(10,iv (IntKind.i64.wrap ((↑n:Int)+(1:Int))))]) (Hp.mk [(0,O.rows 3 false [[nilS,iv (0:Int),nilS]]),(1,O.rows 3 false [[V.sl (Id.p 2) 0 r.length,iv y,V.lst s es]]),(2,O.rows 1 true (nn r))] 3 []))) (ifB (y==(-1:Int)) (K0G Try.prog glX 75 [V.lst 1 (sub (nn r) 0 r.length),nilS] fun v_2=>onBool v_2 fun b=>ifB b (K0G Try.prog glX 76 [V.lst 3 (itl a),V.lst 1 (pll p),V.lst 1 (sub (ul w) 0 L),V.raw (Value.int IntKind.u8 (1:Int))] fun v_3=>onLst v_3 fun s es=>J (St.mk (mkT [(0,V.lst 3 (itl a)),(1,V.lst 1 (pll p)),(2,V.lst 1 (nl v)),(6,V.ptr (Id.p 0) 0 0),(9,V.ptr (Id.p 1) 0 0),(10,iv (IntKind.i64.wrap ((↑n:Int)+(1:Int))))]) (Hp.mk [(0,O.rows 3 false [[nilS,iv (0:Int),nilS]]),(1,O.rows 3 false [[V.sl (Id.p 2) 0 r.length,iv y,V.lst s es]]),(2,O.rows 1 true (nn r))] 3 []))) (J (St.mk (mkT [(0,V.lst 3 (itl a)),(1,V.lst 1 (pll p)),(2,V.lst 1 (nl v)),(6,V.ptr (Id.p 0) 0 0),(9,V.ptr (Id.p 1) 0 0),(10,iv (IntKind.i64.wrap ((↑n:Int)+(1:Int))))]) (Hp.mk [(0,O.rows 3 false [[nilS,iv (0:Int),nilS]]),(1,O.rows 3 false [[nilS,iv (-1:Int),nilS]])] 2 [])))) (J (St.mk (mkT [(0,V.lst 3 (itl a)),(1,V.lst 1 (pll p)),(2,V.lst 1 (nl v)),(6,V.ptr (Id.p 0) 0 0),(9,V.ptr (Id.p 1) 0 0),(10,iv (IntKind.i64.wrap ((↑n:Int)+(1:Int))))]) (Hp.mk [(0,O.rows 3 false [[nilS,iv (0:Int),nilS]]),(1,O.rows 3 false [[nilS,iv (-1:Int),nilS]])] 2 []))))) (J (St.mk (mkT [(0,V.lst 3 (itl a)),(1,V.lst 1 (pll p)),(2,V.lst 1 (nl v)),(6,V.ptr (Id.p 0) 0 0),(9,V.ptr (Id.p 1) 0 0),(10,iv (IntKind.i64.wrap ((↑n:Int)+(1:Int))))]) (Hp.mk [(0,O.rows 3 false [[nilS,iv (0:Int),nilS]]),(1,O.rows 3 false [[nilS,iv (-1:Int),nilS]])] 2 []))))) (by kernel_rfl) ?_
   rw [hpl,← hL]
   refine ifB_mk (fun e=>?_) (fun e=>?_)
   ·have hi:i<L:=by have:=of_decide_eq_true e; omega
    have st:=next hi
    rw [tk_succ,← hr] at st
    rw [bit_at i (by omega) n (by omega),wr1i hi (by omega)]
    cases hb:n.testBit i with
    | true =>
     rw [if_pos hb,valT_snoc,← hy] at st
     have hvb:=getD_bd hG.vr i
     rw [fc0_s (by simp)] at st
     refine ifB_t rfl (need_mk ⟨hi,onSome_mk (hrow hi) (guardB_mk rfl (need_mk ⟨by omega,iel (getVa (by rw [hG.vl]; omega)) ?_⟩))⟩)
     rw [hset hi,wr (n:=y+_) (by omega) (by omega),nn_take]
     refine hJ' ?_ st
     simp only [shC0s,nn,List.map_append,List.length_append,List.length_singleton,List.map_cons,List.map_nil]
    | false =>
     rw [if_neg (by rw [hb]; simp),← hy,← hw] at st
     refine ifB_f rfl ?_
     rw [fc0_s hrn] at st
     exact see (by kernel_rfl) st
   ·have hi:i=L:=by have:=of_decide_eq_false e; omega
    have hbl:=hbl hi
    have hyv:=hyv hi
    have hrest:=hrest hi
    have hfit:=hfit hi
    rw [hsub,hn1]
    have upd:FitC a p n→(∀ n1 d1,(none:Option (Nat×Nat))=some (n1,d1)→Bet (keyT v n) (keyT v n1)) → ∀ (Q:V→Prop),(∀ vv,vv=lsI (resF p w 1 a)→Q vv)→K0G Try.prog glX 76 [.lst 3 (itl a),.lst 1 (pll p),.lst 1 (ul w),V.raw (Value.int IntKind.u8 (1:Int))] Q:=fun _ _ Q hQ=>rest76 (m:=1) ka n8 (by rw [hwl,hL]) hG.st (hQ _ rfl)
    have tak:FitC a p n→(∀ n1 d1,(none:Option (Nat×Nat))=some (n1,d1)→Bet (keyT v n) (keyT v n1)) → ∀ dd,(dd=3∨resF p w 1 a=[])→J (shB2 a p v r y dd (resF p w 1 a) (n+1)):=fun q1 q2 dd hdd=>by
     have:=take hn q1 q2 dd (by rw [← hrest]; exact hdd)
     rw [fam27_s (by rw [← hbl]; exact hrn),← hyv,← hrest,← hbl] at this
     exact this
    have go:FitC a p n→(∀ n1 d1,(none:Option (Nat×Nat))=some (n1,d1)→Bet (keyT v n) (keyT v n1))→K0G Try.prog glX 76 [.lst 3 (itl a),.lst 1 (pll p),.lst 1 (ul w),V.raw (Value.int IntKind.u8 (1:Int))] (fun vv=>onLst vv fun s es=>J (⟨mkT [(0,V.lst 3 (itl a)),(1,V.lst 1 (pll p)),(2,V.lst 1 (nl v)),(6,V.ptr (Id.p 0) 0 0),(9,V.ptr (Id.p 1) 0 0),(10,iv ((n+1:Nat):Int))],⟨[(0,O.rows 3 false [[nilS,iv (0:Int),nilS]]),(1,O.rows 3 false [[V.sl (Id.p 2) 0 r.length,iv y,V.lst s es]]),(2,O.rows 1 true (nn r))],3,[]⟩⟩)):=fun q1 q2=>upd q1 q2 _ (fun vv hvv=>by
     obtain ⟨dd,hdd,hN⟩:=lsI_isL (resF p w 1 a)
     rw [hvv]
     exact onLst_isL hN (see (by kernel_rfl) (tak q1 q2 dd hdd)))
    refine fits74 (m:=1) (by omega) n8 (by rw [hwl,hL]) hG.st (onBool_bv (ifB_mk (fun t=>?_) (fun t=>?_)))
    ·have hf:=hfit.1 (dc_trueM t)
     refine ifB_mk (fun t2=>?_) (fun t2=>?_)
     ·have t2:=of_decide_eq_true t2
      exact see (by kernel_rfl) (go hf (fun n1 d1 e1=>by cases e1))
     ·have t2:=of_decide_eq_false t2
      omega
    ·exact keep hn (fun hf=>(dc_falseM t (hfit.2 hf)).elim)
 | some (n0,d0),g2,keep,take =>
  obtain ⟨z,hz⟩ : ∃ z:Int,z=valT v (bl8 n0):=⟨_,rfl⟩
  obtain ⟨l,hl⟩ : ∃ l,l=resT a p n0:=⟨_,rfl⟩
  obtain ⟨d,hd0⟩ : ∃ d,d=d0:=⟨_,rfl⟩
  rcases Classical.em (bl8 n0=[]) with he | he
  ·rw [fam27_e he] at keep ⊢
   rw [← hz,← hl,← hd0] at keep ⊢
   have kp:=keep
   refine see (p:=ifB (decide ((↑n:Int)<IntKind.i64.wrap ((1:Int) * (2:Int) ^ min (↑(pll p).length:Int).toNat 64))) (need ((pll p).length≤(pll p).length) (need (1 * (pll p).length≤140737488355328) (need ((pll p).length≤9223372036854775807) (La 0 [(0:Tmp),(1:Tmp),(2:Tmp),(6:Tmp),(9:Tmp),(10:Tmp),(11:Tmp),(12:Tmp),(13:Tmp)] (WY Try.prog cfR 2983 (Env.mk (Bs.mk 0 []) 0 none 96 27 2) (cdAt [1,1,1,1,0,1,0,0,1,0,0,1,1,0,1,0,0] (bodyOf Try.f27))) (Qblk 2 (Qthen (WY Try.prog cfR 2986 (Env.mk (Bs.mk 0 []) 0 none 96 27 1) (cdAt [1,1,1,1,0,1,0,0,1,0,0,1,1,1] (bodyOf Try.f27)) (Qblk 1 (Qthen (WY Try.prog cfR 2990 (Env.mk (Bs.mk 0 []) 0 none 96 27 0) (cdAt [1,1,1,1,0,1,0,0,1,1] (bodyOf Try.f27)) (Qla 0 [(0:Tmp),(1:Tmp),(2:Tmp),(6:Tmp),(9:Tmp),(10:Tmp)] J (Qblk 0 (Qthen (WY Try.prog cfR 2995 (Env.mk (Bs.mk 0 []) 0 none 96 27 0) (cdAt [1,1,1,1,1] (bodyOf Try.f27)) (QendX Try.prog Try.f27 fun v h=>R (frzW h v))) (QendX Try.prog Try.f27 fun v h=>R (frzW h v)))))) (Qla 0 [(0:Tmp),(1:Tmp),(2:Tmp),(6:Tmp),(9:Tmp),(10:Tmp)] J (Qblk 0 (Qthen (WY Try.prog cfR 2995 (Env.mk (Bs.mk 0 []) 0 none 96 27 0) (cdAt [1,1,1,1,1] (bodyOf Try.f27)) (QendX Try.prog Try.f27 fun v h=>R (frzW h v))) (QendX Try.prog Try.f27 fun v h=>R (frzW h v)))))))) (Qblk 1 (Qthen (WY Try.prog cfR 2990 (Env.mk (Bs.mk 0 []) 0 none 96 27 0) (cdAt [1,1,1,1,0,1,0,0,1,1] (bodyOf Try.f27)) (Qla 0 [(0:Tmp),(1:Tmp),(2:Tmp),(6:Tmp),(9:Tmp),(10:Tmp)] J (Qblk 0 (Qthen (WY Try.prog cfR 2995 (Env.mk (Bs.mk 0 []) 0 none 96 27 0) (cdAt [1,1,1,1,1] (bodyOf Try.f27)) (QendX Try.prog Try.f27 fun v h=>R (frzW h v))) (QendX Try.prog Try.f27 fun v h=>R (frzW h v)))))) (Qla 0 [(0:Tmp),(1:Tmp),(2:Tmp),(6:Tmp),(9:Tmp),(10:Tmp)] J (Qblk 0 (Qthen (WY Try.prog cfR 2995 (Env.mk (Bs.mk 0 []) 0 none 96 27 0) (cdAt [1,1,1,1,1] (bodyOf Try.f27)) (QendX Try.prog Try.f27 fun v h=>R (frzW h v))) (QendX Try.prog Try.f27 fun v h=>R (frzW h v))))))))) (St.mk (mkT [(0,V.lst 3 (itl a)),(1,V.lst 1 (pll p)),(2,V.lst 1 (nl v)),(6,V.ptr (Id.p 0) 0 0),(9,V.ptr (Id.p 1) 0 0),(10,iv (↑n:Int)),(11,V.sl (Id.p 2) 0 (pll p).length),(12,V.ptr (Id.p 3) 0 0),(13,iv (0:Int))]) (Hp.mk [(0,O.rows 3 false [[nilS,iv (0:Int),nilS]]),(1,O.rows 3 false [[nilS,iv z,V.lst d (itl l)]]),(2,O.rows 1 true (List.replicate (pll p).length [V.raw (Value.int IntKind.u8 (0:Int))])),(3,O.rows 3 false [[nilS,iv (0:Int),nilS]])] 4 [])))))) (R (V.tup [V.agg [nilS,iv z,V.lst d (itl l)],iv (0:Int)]))) (by kernel_rfl) ?_
   rw [hpl,hpw]
   rcases hd:decide ((n:Int)<((2 ^ p.length:Nat):Int)) with _ | _
   ·refine ifB_f rfl ?_
    have hn:n=2 ^ p.length:=by have:=of_decide_eq_false hd; omega
    obtain ⟨f1,f2,f4,f3⟩:=g2
    simp only at f1 f2 f3
    rw [hn] at f1 f3
    have:=h n0 d0 f1 f2 f3 f4
    rw [he] at this
    rw [hz,hl,hd0,he]
    exact this
   refine ifB_t rfl ?_
   have hn:n<2 ^ p.length:=by have:=of_decide_eq_true hd; omega
   refine need_mk ⟨Nat.le_refl _,need_mk ⟨by omega,need_mk ⟨by omega,?_⟩⟩⟩
   rw [wS_zero p.length,← hL]
   refine La.of (σ:=Nat) (fun i=>fc1 a p v z d l n L (wS L (tk n i) []) (valT v (tk n i)) (tk n i) i) (fun i=>i≤L) (fun i=>L - i) 0 (by simp [tk,valT,sumN]; rfl) (by omega) ?_
   rintro i f1 I hI
   obtain ⟨r,hr⟩ : ∃ r,r=tk n i:=⟨_,rfl⟩
   obtain ⟨w,hw⟩ : ∃ w,w=wS L r []:=⟨_,rfl⟩
   obtain ⟨y,hy⟩ : ∃ y,y=valT v r:=⟨_,rfl⟩
   have hrl:r.length≤8:=by have:=tk_len n i; rw [← hr] at this; omega
   have hyb:=valT_bd hG.vr r
   rw [← hy] at hyb
   have hwl:w.length=L:=by rw [hw,wS_len]
   rw [← hr,← hw,← hy]
   have next:i<L→I (fc1 a p v z d l n L (wS L (tk n (i+1)) []) (valT v (tk n (i+1))) (tk n (i+1)) (i+1)):=fun hi=>hI (i+1) hi (by omega)
   have hrow:i<L→(ul w)[0+i]? = some [sv 0]:=fun hi=>by
    rw [Nat.zero_add,hw,ul_get (wS_get _ _ hi)]
    have : ¬ i∈r:=fun q=>by rw [hr,tk_mem] at q; omega
    simp [this]
   have hset:i<L→(ul w).set (0+i) (V.raw (Value.int IntKind.u8 (1:Int))::(List.append []) (List.drop 1 [sv 0]))=ul (wS L (r++[i]) []):=fun hi=>by
    have:=ul_setv w i 1 (row:=[sv 0]) rfl
    rw [hw,wS_set1 (S' := r++[i]) (by simp)] at this
    rw [hw]
    exact this
   have hsub:sub (ul w) 0 L=ul w:=by rw [← (show (ul w).length=L from by rw [ul_length,hwl])]; exact sub_all _
   have hn1:IntKind.i64.wrap ((n:Int)+1)=((n+1:Nat):Int):=wr1i hn (by omega)
   have hfit:i=L→(Built a p w 1↔FitC a p n):=fun hi=>by
    unfold FitC
    rw [hw,hr,hi,hL,hall hn]
   have hbl:i=L→r=bl8 n:=fun hi=>by rw [hr,hi,hL,hall hn]
   have hyv:i=L→y=valT v (bl8 n):=fun hi=>by rw [hy,hbl hi]
   have hrest:i=L→resF p w 1 a=resT a p n:=fun hi=>by
    unfold resT
    rw [hw,hr,hi,hL,hall hn]
   rcases Classical.em (r=[]) with hrn | hrn
   ·rw [hrn]
    rw [hrn,List.nil_append] at hset
    refine see (p:=ifB (decide ((↑i:Int)<(↑(pll p).length:Int))) (ifB (((↑n:Int).fdiv ((2:Int) ^ min (↑i:Int).toNat 64)).tmod (2:Int)==(1:Int)) (need (i<L) (onSome (ul w)[0+i]? fun row=>guardB ((0+1).ble row.length) (onSome (nl v)[i]? fun row_1=>onSome row_1[0]? fun v_1=>onIntK IntKind.i64 v_1 fun n_1=>I (St.mk (mkT [(0,V.lst 3 (itl a)),(1,V.lst 1 (pll p)),(2,V.lst 1 (nl v)),(6,V.ptr (Id.p 0) 0 0),(9,V.ptr (Id.p 1) 0 0),(10,iv (↑n:Int)),(11,V.sl (Id.p 2) 0 L),(12,V.ptr (Id.p 3) 0 0),(13,iv (IntKind.i64.wrap ((↑i:Int)+(1:Int))))]) (Hp.mk [(0,O.rows 3 false [[nilS,iv (0:Int),nilS]]),(1,O.rows 3 false [[nilS,iv z,V.lst d (itl l)]]),(2,O.rows 1 true ((ul w).set (0+i) (V.raw (Value.int IntKind.u8 (1:Int))::(List.append []) (List.drop 1 row)))),(3,O.rows 3 false [[V.sl (Id.p 4) 0 1,iv (IntKind.i64.wrap (y+n_1)),nilS]]),(4,O.rows 1 true [[iv (↑i:Int)]])] 5 []))))) (I (St.mk (mkT [(0,V.lst 3 (itl a)),(1,V.lst 1 (pll p)),(2,V.lst 1 (nl v)),(6,V.ptr (Id.p 0) 0 0),(9,V.ptr (Id.p 1) 0 0),(10,iv (↑n:Int)),(11,V.sl (Id.p 2) 0 L),(12,V.ptr (Id.p 3) 0 0),(13,iv (IntKind.i64.wrap ((↑i:Int)+(1:Int))))]) (Hp.mk [(0,O.rows 3 false [[nilS,iv (0:Int),nilS]]),(1,O.rows 3 false [[nilS,iv z,V.lst d (itl l)]]),(2,O.rows 1 true (ul w)),(3,O.rows 3 false [[nilS,iv y,nilS]])] 4 [])))) (K0G Try.prog glX 74 [V.lst 3 (itl a),V.lst 1 (pll p),V.lst 1 (sub (ul w) 0 L),V.raw (Value.int IntKind.u8 (1:Int))] fun v_1=>onBool v_1 fun b=>ifB b (ifB (decide (y > z)) (K0G Try.prog glX 76 [V.lst 3 (itl a),V.lst 1 (pll p),V.lst 1 (sub (ul w) 0 L),V.raw (Value.int IntKind.u8 (1:Int))] fun v_2=>onLst v_2 fun s es=>J (St.mk (mkT [(0,V.lst 3 (itl a)),(1,V.lst 1 (pll p)),(2,V.lst 1 (nl v)),(6,V.ptr (Id.p 0) 0 0),(9,V.ptr (Id.p 1) 0 0),(10,iv (IntKind.i64.wrap ((↑n:Int)+(1:Int))))]) (Hp.mk [(0,O.rows 3 false [[nilS,iv (0:Int),nilS]]),(1,O.rows 3 false [[nilS,iv y,V.lst s es]])] 2 []))) (ifB (y==z) (K0G Try.prog glX 75 [nilS,nilS] fun v_2=>onBool v_2 fun b=>ifB b (K0G Try.prog glX 76 [V.lst 3 (itl a),V.lst 1 (pll p),V.lst 1 (sub (ul w) 0 L),V.raw (Value.int IntKind.u8 (1:Int))] fun v_3=>onLst v_3 fun s es=>J (St.mk (mkT [(0,V.lst 3 (itl a)),(1,V.lst 1 (pll p)),(2,V.lst 1 (nl v)),(6,V.ptr (Id.p 0) 0 0),(9,V.ptr (Id.p 1) 0 0),(10,iv (IntKind.i64.wrap ((↑n:Int)+(1:Int))))]) (Hp.mk [(0,O.rows 3 false [[nilS,iv (0:Int),nilS]]),(1,O.rows 3 false [[nilS,iv y,V.lst s es]])] 2 []))) (J (St.mk (mkT [(0,V.lst 3 (itl a)),(1,V.lst 1 (pll p)),(2,V.lst 1 (nl v)),(6,V.ptr (Id.p 0) 0 0),(9,V.ptr (Id.p 1) 0 0),(10,iv (IntKind.i64.wrap ((↑n:Int)+(1:Int))))]) (Hp.mk [(0,O.rows 3 false [[nilS,iv (0:Int),nilS]]),(1,O.rows 3 false [[nilS,iv z,V.lst d (itl l)]])] 2 [])))) (J (St.mk (mkT [(0,V.lst 3 (itl a)),(1,V.lst 1 (pll p)),(2,V.lst 1 (nl v)),(6,V.ptr (Id.p 0) 0 0),(9,V.ptr (Id.p 1) 0 0),(10,iv (IntKind.i64.wrap ((↑n:Int)+(1:Int))))]) (Hp.mk [(0,O.rows 3 false [[nilS,iv (0:Int),nilS]]),(1,O.rows 3 false [[nilS,iv z,V.lst d (itl l)]])] 2 []))))) (J (St.mk (mkT [(0,V.lst 3 (itl a)),(1,V.lst 1 (pll p)),(2,V.lst 1 (nl v)),(6,V.ptr (Id.p 0) 0 0),(9,V.ptr (Id.p 1) 0 0),(10,iv (IntKind.i64.wrap ((↑n:Int)+(1:Int))))]) (Hp.mk [(0,O.rows 3 false [[nilS,iv (0:Int),nilS]]),(1,O.rows 3 false [[nilS,iv z,V.lst d (itl l)]])] 2 []))))) (by kernel_rfl) ?_
    rw [hpl,← hL]
    refine ifB_mk (fun e=>?_) (fun e=>?_)
    ·have hi:i<L:=by have:=of_decide_eq_true e; omega
     have st:=next hi
     rw [tk_succ,← hr] at st
     rw [bit_at i (by omega) n (by omega),wr1i hi (by omega)]
     cases hb:n.testBit i with
     | true =>
      rw [if_pos hb,valT_snoc,← hy] at st
      have hvb:=getD_bd hG.vr i
      rw [hrn] at st
      refine ifB_t rfl (need_mk ⟨hi,onSome_mk (hrow hi) (guardB_mk rfl (iel (getVa (by rw [hG.vl]; omega)) ?_))⟩)
      rw [hset hi,wr (n:=y+_) (by omega) (by omega)]
      exact see (by kernel_rfl) st
     | false =>
      rw [if_neg (by rw [hb]; simp),← hy,← hw] at st
      refine ifB_f rfl ?_
      rw [hrn] at st
      exact see (by kernel_rfl) st
    ·have hi:i=L:=by have:=of_decide_eq_false e; omega
     have hbl:=hbl hi
     have hyv:=hyv hi
     have hrest:=hrest hi
     have hfit:=hfit hi
     rw [hsub,hn1]
     have upd:FitC a p n→(∀ n1 d1,some (n0,d0)=some (n1,d1)→Bet (keyT v n) (keyT v n1)) → ∀ (Q:V→Prop),(∀ vv,vv=lsI (resF p w 1 a)→Q vv)→K0G Try.prog glX 76 [.lst 3 (itl a),.lst 1 (pll p),.lst 1 (ul w),V.raw (Value.int IntKind.u8 (1:Int))] Q:=fun _ _ Q hQ=>rest76 (m:=1) ka n8 (by rw [hwl,hL]) hG.st (hQ _ rfl)
     have tak:FitC a p n→(∀ n1 d1,some (n0,d0)=some (n1,d1)→Bet (keyT v n) (keyT v n1)) → ∀ dd,(dd=3∨resF p w 1 a=[])→J (shB1 a p v y dd (resF p w 1 a) (n+1)):=fun q1 q2 dd hdd=>by
      have:=take hn q1 q2 dd (by rw [← hrest]; exact hdd)
      rw [fam27_e (by rw [← hbl]; exact hrn),← hyv,← hrest] at this
      exact this
     have go:FitC a p n→(∀ n1 d1,some (n0,d0)=some (n1,d1)→Bet (keyT v n) (keyT v n1))→K0G Try.prog glX 76 [.lst 3 (itl a),.lst 1 (pll p),.lst 1 (ul w),V.raw (Value.int IntKind.u8 (1:Int))] (fun vv=>onLst vv fun s es=>J (⟨mkT [(0,V.lst 3 (itl a)),(1,V.lst 1 (pll p)),(2,V.lst 1 (nl v)),(6,V.ptr (Id.p 0) 0 0),(9,V.ptr (Id.p 1) 0 0),(10,iv ((n+1:Nat):Int))],⟨[(0,O.rows 3 false [[nilS,iv (0:Int),nilS]]),(1,O.rows 3 false [[nilS,iv y,V.lst s es]])],2,[]⟩⟩)):=fun q1 q2=>upd q1 q2 _ (fun vv hvv=>by
      obtain ⟨dd,hdd,hN⟩:=lsI_isL (resF p w 1 a)
      rw [hvv]
      exact onLst_isL hN (see (by kernel_rfl) (tak q1 q2 dd hdd)))
     refine fits74 (m:=1) (by omega) n8 (by rw [hwl,hL]) hG.st (onBool_bv (ifB_mk (fun t=>?_) (fun t=>?_)))
     ·have hf:=hfit.1 (dc_trueM t)
      refine ifB_mk (fun t2=>?_) (fun t2=>?_)
      ·have t2:=of_decide_eq_true t2
       exact see (by kernel_rfl) (go hf (fun n1 d1 e1=>by cases e1; exact .inl (by show valT v (bl8 n0)<valT v (bl8 n); omega)))
      ·have t2:=of_decide_eq_false t2
       refine ifB_mk (fun t3=>?_) (fun t3=>kp hn (fun hf=>⟨n0,d,rfl,fun g=>?_⟩))
       ·have t3:y=z:=by simpa using t3
        refine first75nn (onBool_bv (ifB_mk (fun t4=>?_) (fun t4=>?_)))
        ·have t4:=dc_trueM t4
         exact see (by kernel_rfl) (go hf (fun n1 d1 e1=>by cases e1; exact .inr ⟨by show valT v (bl8 n)=valT v (bl8 n0); omega,by show FstP (bl8 n) (bl8 n0); rw [← hbl,he]; rw [hrn]; exact t4⟩))
        ·have t4:=dc_falseM t4
         refine kp hn (fun hf=>⟨n0,d,rfl,fun g=>?_⟩)
         rcases g with g | ⟨_,g⟩
         ·have g:valT v (bl8 n0)<valT v (bl8 n):=g
          omega
         ·have g:FstP (bl8 n) (bl8 n0):=g
          rw [← hbl,he] at g
          rw [hrn] at g
          exact t4 g
       ·have t3:y≠z:=by simpa using t3
        rcases g with g | ⟨g,_⟩
        ·have g:valT v (bl8 n0)<valT v (bl8 n):=g
         omega
        ·have g:valT v (bl8 n)=valT v (bl8 n0):=g
         omega
     ·exact kp hn (fun hf=>(dc_falseM t (hfit.2 hf)).elim)
   ·rw [fc1_s hrn]
    refine see (p:=ifB (decide ((↑i:Int)<(↑(pll p).length:Int))) (ifB (((↑n:Int).fdiv ((2:Int) ^ min (↑i:Int).toNat 64)).tmod (2:Int)==(1:Int)) (need (i<L) (onSome (ul w)[0+i]? fun row=>guardB ((0+1).ble row.length) (need ((r.length+1) * 8≤140737488355328) (onSome (nl v)[i]? fun row_1=>onSome row_1[0]? fun v_1=>onIntK IntKind.i64 v_1 fun n_1=>I (St.mk (mkT [(0,V.lst 3 (itl a)),(1,V.lst 1 (pll p)),(2,V.lst 1 (nl v)),(6,V.ptr (Id.p 0) 0 0),(9,V.ptr (Id.p 1) 0 0),(10,iv (↑n:Int)),(11,V.sl (Id.p 2) 0 L),(12,V.ptr (Id.p 3) 0 0),(13,iv (IntKind.i64.wrap ((↑i:Int)+(1:Int))))]) (Hp.mk [(0,O.rows 3 false [[nilS,iv (0:Int),nilS]]),(1,O.rows 3 false [[nilS,iv z,V.lst d (itl l)]]),(2,O.rows 1 true ((ul w).set (0+i) (V.raw (Value.int IntKind.u8 (1:Int))::(List.append []) (List.drop 1 row)))),(3,O.rows 3 false [[V.sl (Id.p 4) 0 (r.length+1),iv (IntKind.i64.wrap (y+n_1)),nilS]]),(4,O.rows 1 true (List.take r.length (nn r)++[[iv (↑i:Int)]]))] 5 [])))))) (I (St.mk (mkT [(0,V.lst 3 (itl a)),(1,V.lst 1 (pll p)),(2,V.lst 1 (nl v)),(6,V.ptr (Id.p 0) 0 0),(9,V.ptr (Id.p 1) 0 0),(10,iv (↑n:Int)),(11,V.sl (Id.p 2) 0 L),(12,V.ptr (Id.p 3) 0 0),(13,iv (IntKind.i64.wrap ((↑i:Int)+(1:Int))))]) (Hp.mk [(0,O.rows 3 false [[nilS,iv (0:Int),nilS]]),(1,O.rows 3 false [[nilS,iv z,V.lst d (itl l)]]),(2,O.rows 1 true (ul w)),(3,O.rows 3 false [[V.sl (Id.p 4) 0 r.length,iv y,nilS]]),(4,O.rows 1 true (nn r))] 5 [])))) (K0G Try.prog glX 74 [V.lst 3 (itl a),V.lst 1 (pll p),V.lst 1 (sub (ul w) 0 L),V.raw (Value.int IntKind.u8 (1:Int))] fun v_1=>onBool v_1 fun b=>ifB b (ifB (decide (y > z)) (K0G Try.prog glX 76 [V.lst 3 (itl a),V.lst 1 (pll p),V.lst 1 (sub (ul w) 0 L),V.raw (Value.int IntKind.u8 (1:Int))] fun v_2=>onLst v_2 fun s es=>J (St.mk (mkT [(0,V.lst 3 (itl a)),(1,V.lst 1 (pll p)),(2,V.lst 1 (nl v)),(6,V.ptr (Id.p 0) 0 0),(9,V.ptr (Id.p 1) 0 0),(10,iv (IntKind.i64.wrap ((↑n:Int)+(1:Int))))]) (Hp.mk [(0,O.rows 3 false [[nilS,iv (0:Int),nilS]]),(1,O.rows 3 false [[V.sl (Id.p 2) 0 r.length,iv y,V.lst s es]]),(2,O.rows 1 true (nn r))] 3 []))) (ifB (y==z) (K0G Try.prog glX 75 [V.lst 1 (sub (nn r) 0 r.length),nilS] fun v_2=>onBool v_2 fun b=>ifB b (K0G Try.prog glX 76 [V.lst 3 (itl a),V.lst 1 (pll p),V.lst 1 (sub (ul w) 0 L),V.raw (Value.int IntKind.u8 (1:Int))] fun v_3=>onLst v_3 fun s es=>J (St.mk (mkT [(0,V.lst 3 (itl a)),(1,V.lst 1 (pll p)),(2,V.lst 1 (nl v)),(6,V.ptr (Id.p 0) 0 0),(9,V.ptr (Id.p 1) 0 0),(10,iv (IntKind.i64.wrap ((↑n:Int)+(1:Int))))]) (Hp.mk [(0,O.rows 3 false [[nilS,iv (0:Int),nilS]]),(1,O.rows 3 false [[V.sl (Id.p 2) 0 r.length,iv y,V.lst s es]]),(2,O.rows 1 true (nn r))] 3 []))) (J (St.mk (mkT [(0,V.lst 3 (itl a)),(1,V.lst 1 (pll p)),(2,V.lst 1 (nl v)),(6,V.ptr (Id.p 0) 0 0),(9,V.ptr (Id.p 1) 0 0),(10,iv (IntKind.i64.wrap ((↑n:Int)+(1:Int))))]) (Hp.mk [(0,O.rows 3 false [[nilS,iv (0:Int),nilS]]),(1,O.rows 3 false [[nilS,iv z,V.lst d (itl l)]])] 2 [])))) (J (St.mk (mkT [(0,V.lst 3 (itl a)),(1,V.lst 1 (pll p)),(2,V.lst 1 (nl v)),(6,V.ptr (Id.p 0) 0 0),(9,V.ptr (Id.p 1) 0 0),(10,iv (IntKind.i64.wrap ((↑n:Int)+(1:Int))))]) (Hp.mk [(0,O.rows 3 false [[nilS,iv (0:Int),nilS]]),(1,O.rows 3 false [[nilS,iv z,V.lst d (itl l)]])] 2 []))))) (J (St.mk (mkT [(0,V.lst 3 (itl a)),(1,V.lst 1 (pll p)),(2,V.lst 1 (nl v)),(6,V.ptr (Id.p 0) 0 0),(9,V.ptr (Id.p 1) 0 0),(10,iv (IntKind.i64.wrap ((↑n:Int)+(1:Int))))]) (Hp.mk [(0,O.rows 3 false [[nilS,iv (0:Int),nilS]]),(1,O.rows 3 false [[nilS,iv z,V.lst d (itl l)]])] 2 []))))) (by kernel_rfl) ?_
    rw [hpl,← hL]
    refine ifB_mk (fun e=>?_) (fun e=>?_)
    ·have hi:i<L:=by have:=of_decide_eq_true e; omega
     have st:=next hi
     rw [tk_succ,← hr] at st
     rw [bit_at i (by omega) n (by omega),wr1i hi (by omega)]
     cases hb:n.testBit i with
     | true =>
      rw [if_pos hb,valT_snoc,← hy] at st
      have hvb:=getD_bd hG.vr i
      rw [fc1_s (by simp)] at st
      refine ifB_t rfl (need_mk ⟨hi,onSome_mk (hrow hi) (guardB_mk rfl (need_mk ⟨by omega,iel (getVa (by rw [hG.vl]; omega)) ?_⟩))⟩)
      rw [hset hi,wr (n:=y+_) (by omega) (by omega),nn_take]
      refine hJ' ?_ st
      simp only [shC1s,nn,List.map_append,List.length_append,List.length_singleton,List.map_cons,List.map_nil]
     | false =>
      rw [if_neg (by rw [hb]; simp),← hy,← hw] at st
      refine ifB_f rfl ?_
      rw [fc1_s hrn] at st
      exact see (by kernel_rfl) st
    ·have hi:i=L:=by have:=of_decide_eq_false e; omega
     have hbl:=hbl hi
     have hyv:=hyv hi
     have hrest:=hrest hi
     have hfit:=hfit hi
     rw [hsub,hn1]
     have upd:FitC a p n→(∀ n1 d1,some (n0,d0)=some (n1,d1)→Bet (keyT v n) (keyT v n1)) → ∀ (Q:V→Prop),(∀ vv,vv=lsI (resF p w 1 a)→Q vv)→K0G Try.prog glX 76 [.lst 3 (itl a),.lst 1 (pll p),.lst 1 (ul w),V.raw (Value.int IntKind.u8 (1:Int))] Q:=fun _ _ Q hQ=>rest76 (m:=1) ka n8 (by rw [hwl,hL]) hG.st (hQ _ rfl)
     have tak:FitC a p n→(∀ n1 d1,some (n0,d0)=some (n1,d1)→Bet (keyT v n) (keyT v n1)) → ∀ dd,(dd=3∨resF p w 1 a=[])→J (shB2 a p v r y dd (resF p w 1 a) (n+1)):=fun q1 q2 dd hdd=>by
      have:=take hn q1 q2 dd (by rw [← hrest]; exact hdd)
      rw [fam27_s (by rw [← hbl]; exact hrn),← hyv,← hrest,← hbl] at this
      exact this
     have go:FitC a p n→(∀ n1 d1,some (n0,d0)=some (n1,d1)→Bet (keyT v n) (keyT v n1))→K0G Try.prog glX 76 [.lst 3 (itl a),.lst 1 (pll p),.lst 1 (ul w),V.raw (Value.int IntKind.u8 (1:Int))] (fun vv=>onLst vv fun s es=>J (⟨mkT [(0,V.lst 3 (itl a)),(1,V.lst 1 (pll p)),(2,V.lst 1 (nl v)),(6,V.ptr (Id.p 0) 0 0),(9,V.ptr (Id.p 1) 0 0),(10,iv ((n+1:Nat):Int))],⟨[(0,O.rows 3 false [[nilS,iv (0:Int),nilS]]),(1,O.rows 3 false [[V.sl (Id.p 2) 0 r.length,iv y,V.lst s es]]),(2,O.rows 1 true (nn r))],3,[]⟩⟩)):=fun q1 q2=>upd q1 q2 _ (fun vv hvv=>by
      obtain ⟨dd,hdd,hN⟩:=lsI_isL (resF p w 1 a)
      rw [hvv]
      exact onLst_isL hN (see (by kernel_rfl) (tak q1 q2 dd hdd)))
     refine fits74 (m:=1) (by omega) n8 (by rw [hwl,hL]) hG.st (onBool_bv (ifB_mk (fun t=>?_) (fun t=>?_)))
     ·have hf:=hfit.1 (dc_trueM t)
      refine ifB_mk (fun t2=>?_) (fun t2=>?_)
      ·have t2:=of_decide_eq_true t2
       exact see (by kernel_rfl) (go hf (fun n1 d1 e1=>by cases e1; exact .inl (by show valT v (bl8 n0)<valT v (bl8 n); omega)))
      ·have t2:=of_decide_eq_false t2
       refine ifB_mk (fun t3=>?_) (fun t3=>kp hn (fun hf=>⟨n0,d,rfl,fun g=>?_⟩))
       ·have t3:y=z:=by simpa using t3
        rw [sub_nn r]
        refine first75m (u:=1) (.inl rfl) (by omega) (onBool_bv (ifB_mk (fun t4=>?_) (fun t4=>?_)))
        ·have t4:=dc_trueM t4
         exact see (by kernel_rfl) (go hf (fun n1 d1 e1=>by cases e1; exact .inr ⟨by show valT v (bl8 n)=valT v (bl8 n0); omega,by show FstP (bl8 n) (bl8 n0); rw [← hbl,he]; exact t4⟩))
        ·have t4:=dc_falseM t4
         refine kp hn (fun hf=>⟨n0,d,rfl,fun g=>?_⟩)
         rcases g with g | ⟨_,g⟩
         ·have g:valT v (bl8 n0)<valT v (bl8 n):=g
          omega
         ·have g:FstP (bl8 n) (bl8 n0):=g
          rw [← hbl,he] at g
          exact t4 g
       ·have t3:y≠z:=by simpa using t3
        rcases g with g | ⟨g,_⟩
        ·have g:valT v (bl8 n0)<valT v (bl8 n):=g
         omega
        ·have g:valT v (bl8 n)=valT v (bl8 n0):=g
         omega
     ·exact kp hn (fun hf=>(dc_falseM t (hfit.2 hf)).elim)
  ·obtain ⟨q,hq⟩ : ∃ q,q=bl8 n0:=⟨_,rfl⟩
   rw [fam27_s he] at keep ⊢
   rw [← hz,← hl,← hd0,← hq] at keep ⊢
   have kp:=keep
   refine see (p:=ifB (decide ((↑n:Int)<IntKind.i64.wrap ((1:Int) * (2:Int) ^ min (↑(pll p).length:Int).toNat 64))) (need ((pll p).length≤(pll p).length) (need (1 * (pll p).length≤140737488355328) (need ((pll p).length≤9223372036854775807) (La 0 [(0:Tmp),(1:Tmp),(2:Tmp),(6:Tmp),(9:Tmp),(10:Tmp),(11:Tmp),(12:Tmp),(13:Tmp)] (WY Try.prog cfR 2983 (Env.mk (Bs.mk 0 []) 0 none 96 27 2) (cdAt [1,1,1,1,0,1,0,0,1,0,0,1,1,0,1,0,0] (bodyOf Try.f27))) (Qblk 2 (Qthen (WY Try.prog cfR 2986 (Env.mk (Bs.mk 0 []) 0 none 96 27 1) (cdAt [1,1,1,1,0,1,0,0,1,0,0,1,1,1] (bodyOf Try.f27)) (Qblk 1 (Qthen (WY Try.prog cfR 2990 (Env.mk (Bs.mk 0 []) 0 none 96 27 0) (cdAt [1,1,1,1,0,1,0,0,1,1] (bodyOf Try.f27)) (Qla 0 [(0:Tmp),(1:Tmp),(2:Tmp),(6:Tmp),(9:Tmp),(10:Tmp)] J (Qblk 0 (Qthen (WY Try.prog cfR 2995 (Env.mk (Bs.mk 0 []) 0 none 96 27 0) (cdAt [1,1,1,1,1] (bodyOf Try.f27)) (QendX Try.prog Try.f27 fun v h=>R (frzW h v))) (QendX Try.prog Try.f27 fun v h=>R (frzW h v)))))) (Qla 0 [(0:Tmp),(1:Tmp),(2:Tmp),(6:Tmp),(9:Tmp),(10:Tmp)] J (Qblk 0 (Qthen (WY Try.prog cfR 2995 (Env.mk (Bs.mk 0 []) 0 none 96 27 0) (cdAt [1,1,1,1,1] (bodyOf Try.f27)) (QendX Try.prog Try.f27 fun v h=>R (frzW h v))) (QendX Try.prog Try.f27 fun v h=>R (frzW h v)))))))) (Qblk 1 (Qthen (WY Try.prog cfR 2990 (Env.mk (Bs.mk 0 []) 0 none 96 27 0) (cdAt [1,1,1,1,0,1,0,0,1,1] (bodyOf Try.f27)) (Qla 0 [(0:Tmp),(1:Tmp),(2:Tmp),(6:Tmp),(9:Tmp),(10:Tmp)] J (Qblk 0 (Qthen (WY Try.prog cfR 2995 (Env.mk (Bs.mk 0 []) 0 none 96 27 0) (cdAt [1,1,1,1,1] (bodyOf Try.f27)) (QendX Try.prog Try.f27 fun v h=>R (frzW h v))) (QendX Try.prog Try.f27 fun v h=>R (frzW h v)))))) (Qla 0 [(0:Tmp),(1:Tmp),(2:Tmp),(6:Tmp),(9:Tmp),(10:Tmp)] J (Qblk 0 (Qthen (WY Try.prog cfR 2995 (Env.mk (Bs.mk 0 []) 0 none 96 27 0) (cdAt [1,1,1,1,1] (bodyOf Try.f27)) (QendX Try.prog Try.f27 fun v h=>R (frzW h v))) (QendX Try.prog Try.f27 fun v h=>R (frzW h v))))))))) (St.mk (mkT [(0,V.lst 3 (itl a)),(1,V.lst 1 (pll p)),(2,V.lst 1 (nl v)),(6,V.ptr (Id.p 0) 0 0),(9,V.ptr (Id.p 1) 0 0),(10,iv (↑n:Int)),(11,V.sl (Id.p 3) 0 (pll p).length),(12,V.ptr (Id.p 4) 0 0),(13,iv (0:Int))]) (Hp.mk [(0,O.rows 3 false [[nilS,iv (0:Int),nilS]]),(1,O.rows 3 false [[V.sl (Id.p 2) 0 q.length,iv z,V.lst d (itl l)]]),(2,O.rows 1 true (nn q)),(3,O.rows 1 true (List.replicate (pll p).length [V.raw (Value.int IntKind.u8 (0:Int))])),(4,O.rows 3 false [[nilS,iv (0:Int),nilS]])] 5 [])))))) (R (V.tup [V.agg [V.lst 1 (sub (nn q) 0 q.length),iv z,V.lst d (itl l)],iv (0:Int)]))) (by kernel_rfl) ?_
   rw [hpl,hpw]
   rcases hd:decide ((n:Int)<((2 ^ p.length:Nat):Int)) with _ | _
   ·refine ifB_f rfl ?_
    have hn:n=2 ^ p.length:=by have:=of_decide_eq_false hd; omega
    obtain ⟨f1,f2,f4,f3⟩:=g2
    simp only at f1 f2 f3
    rw [hn] at f1 f3
    have:=h n0 d0 f1 f2 f3 f4
    rw [lsN_b he] at this
    rw [sub_nn,hq,hz,hl,hd0]
    exact this
   refine ifB_t rfl ?_
   have hn:n<2 ^ p.length:=by have:=of_decide_eq_true hd; omega
   refine need_mk ⟨Nat.le_refl _,need_mk ⟨by omega,need_mk ⟨by omega,?_⟩⟩⟩
   rw [wS_zero p.length,← hL]
   refine La.of (σ:=Nat) (fun i=>fc2 a p v q z d l n L (wS L (tk n i) []) (valT v (tk n i)) (tk n i) i) (fun i=>i≤L) (fun i=>L - i) 0 (by simp [tk,valT,sumN]; rfl) (by omega) ?_
   rintro i f1 I hI
   obtain ⟨r,hr⟩ : ∃ r,r=tk n i:=⟨_,rfl⟩
   obtain ⟨w,hw⟩ : ∃ w,w=wS L r []:=⟨_,rfl⟩
   obtain ⟨y,hy⟩ : ∃ y,y=valT v r:=⟨_,rfl⟩
   have hrl:r.length≤8:=by have:=tk_len n i; rw [← hr] at this; omega
   have hyb:=valT_bd hG.vr r
   rw [← hy] at hyb
   have hwl:w.length=L:=by rw [hw,wS_len]
   rw [← hr,← hw,← hy]
   have next:i<L→I (fc2 a p v q z d l n L (wS L (tk n (i+1)) []) (valT v (tk n (i+1))) (tk n (i+1)) (i+1)):=fun hi=>hI (i+1) hi (by omega)
   have hrow:i<L→(ul w)[0+i]? = some [sv 0]:=fun hi=>by
    rw [Nat.zero_add,hw,ul_get (wS_get _ _ hi)]
    have : ¬ i∈r:=fun q=>by rw [hr,tk_mem] at q; omega
    simp [this]
   have hset:i<L→(ul w).set (0+i) (V.raw (Value.int IntKind.u8 (1:Int))::(List.append []) (List.drop 1 [sv 0]))=ul (wS L (r++[i]) []):=fun hi=>by
    have:=ul_setv w i 1 (row:=[sv 0]) rfl
    rw [hw,wS_set1 (S' := r++[i]) (by simp)] at this
    rw [hw]
    exact this
   have hsub:sub (ul w) 0 L=ul w:=by rw [← (show (ul w).length=L from by rw [ul_length,hwl])]; exact sub_all _
   have hn1:IntKind.i64.wrap ((n:Int)+1)=((n+1:Nat):Int):=wr1i hn (by omega)
   have hfit:i=L→(Built a p w 1↔FitC a p n):=fun hi=>by
    unfold FitC
    rw [hw,hr,hi,hL,hall hn]
   have hbl:i=L→r=bl8 n:=fun hi=>by rw [hr,hi,hL,hall hn]
   have hyv:i=L→y=valT v (bl8 n):=fun hi=>by rw [hy,hbl hi]
   have hrest:i=L→resF p w 1 a=resT a p n:=fun hi=>by
    unfold resT
    rw [hw,hr,hi,hL,hall hn]
   rcases Classical.em (r=[]) with hrn | hrn
   ·rw [hrn]
    rw [hrn,List.nil_append] at hset
    refine see (p:=ifB (decide ((↑i:Int)<(↑(pll p).length:Int))) (ifB (((↑n:Int).fdiv ((2:Int) ^ min (↑i:Int).toNat 64)).tmod (2:Int)==(1:Int)) (need (i<L) (onSome (ul w)[0+i]? fun row=>guardB ((0+1).ble row.length) (onSome (nl v)[i]? fun row_1=>onSome row_1[0]? fun v_1=>onIntK IntKind.i64 v_1 fun n_1=>I (St.mk (mkT [(0,V.lst 3 (itl a)),(1,V.lst 1 (pll p)),(2,V.lst 1 (nl v)),(6,V.ptr (Id.p 0) 0 0),(9,V.ptr (Id.p 1) 0 0),(10,iv (↑n:Int)),(11,V.sl (Id.p 3) 0 L),(12,V.ptr (Id.p 4) 0 0),(13,iv (IntKind.i64.wrap ((↑i:Int)+(1:Int))))]) (Hp.mk [(0,O.rows 3 false [[nilS,iv (0:Int),nilS]]),(1,O.rows 3 false [[V.sl (Id.p 2) 0 q.length,iv z,V.lst d (itl l)]]),(2,O.rows 1 true (nn q)),(3,O.rows 1 true ((ul w).set (0+i) (V.raw (Value.int IntKind.u8 (1:Int))::(List.append []) (List.drop 1 row)))),(4,O.rows 3 false [[V.sl (Id.p 5) 0 1,iv (IntKind.i64.wrap (y+n_1)),nilS]]),(5,O.rows 1 true [[iv (↑i:Int)]])] 6 []))))) (I (St.mk (mkT [(0,V.lst 3 (itl a)),(1,V.lst 1 (pll p)),(2,V.lst 1 (nl v)),(6,V.ptr (Id.p 0) 0 0),(9,V.ptr (Id.p 1) 0 0),(10,iv (↑n:Int)),(11,V.sl (Id.p 3) 0 L),(12,V.ptr (Id.p 4) 0 0),(13,iv (IntKind.i64.wrap ((↑i:Int)+(1:Int))))]) (Hp.mk [(0,O.rows 3 false [[nilS,iv (0:Int),nilS]]),(1,O.rows 3 false [[V.sl (Id.p 2) 0 q.length,iv z,V.lst d (itl l)]]),(2,O.rows 1 true (nn q)),(3,O.rows 1 true (ul w)),(4,O.rows 3 false [[nilS,iv y,nilS]])] 5 [])))) (K0G Try.prog glX 74 [V.lst 3 (itl a),V.lst 1 (pll p),V.lst 1 (sub (ul w) 0 L),V.raw (Value.int IntKind.u8 (1:Int))] fun v_1=>onBool v_1 fun b=>ifB b (ifB (decide (y > z)) (K0G Try.prog glX 76 [V.lst 3 (itl a),V.lst 1 (pll p),V.lst 1 (sub (ul w) 0 L),V.raw (Value.int IntKind.u8 (1:Int))] fun v_2=>onLst v_2 fun s es=>J (St.mk (mkT [(0,V.lst 3 (itl a)),(1,V.lst 1 (pll p)),(2,V.lst 1 (nl v)),(6,V.ptr (Id.p 0) 0 0),(9,V.ptr (Id.p 1) 0 0),(10,iv (IntKind.i64.wrap ((↑n:Int)+(1:Int))))]) (Hp.mk [(0,O.rows 3 false [[nilS,iv (0:Int),nilS]]),(1,O.rows 3 false [[nilS,iv y,V.lst s es]])] 2 []))) (ifB (y==z) (K0G Try.prog glX 75 [nilS,V.lst 1 (sub (nn q) 0 q.length)] fun v_2=>onBool v_2 fun b=>ifB b (K0G Try.prog glX 76 [V.lst 3 (itl a),V.lst 1 (pll p),V.lst 1 (sub (ul w) 0 L),V.raw (Value.int IntKind.u8 (1:Int))] fun v_3=>onLst v_3 fun s es=>J (St.mk (mkT [(0,V.lst 3 (itl a)),(1,V.lst 1 (pll p)),(2,V.lst 1 (nl v)),(6,V.ptr (Id.p 0) 0 0),(9,V.ptr (Id.p 1) 0 0),(10,iv (IntKind.i64.wrap ((↑n:Int)+(1:Int))))]) (Hp.mk [(0,O.rows 3 false [[nilS,iv (0:Int),nilS]]),(1,O.rows 3 false [[nilS,iv y,V.lst s es]])] 2 []))) (J (St.mk (mkT [(0,V.lst 3 (itl a)),(1,V.lst 1 (pll p)),(2,V.lst 1 (nl v)),(6,V.ptr (Id.p 0) 0 0),(9,V.ptr (Id.p 1) 0 0),(10,iv (IntKind.i64.wrap ((↑n:Int)+(1:Int))))]) (Hp.mk [(0,O.rows 3 false [[nilS,iv (0:Int),nilS]]),(1,O.rows 3 false [[V.sl (Id.p 2) 0 q.length,iv z,V.lst d (itl l)]]),(2,O.rows 1 true (nn q))] 3 [])))) (J (St.mk (mkT [(0,V.lst 3 (itl a)),(1,V.lst 1 (pll p)),(2,V.lst 1 (nl v)),(6,V.ptr (Id.p 0) 0 0),(9,V.ptr (Id.p 1) 0 0),(10,iv (IntKind.i64.wrap ((↑n:Int)+(1:Int))))]) (Hp.mk [(0,O.rows 3 false [[nilS,iv (0:Int),nilS]]),(1,O.rows 3 false [[V.sl (Id.p 2) 0 q.length,iv z,V.lst d (itl l)]]),(2,O.rows 1 true (nn q))] 3 []))))) (J (St.mk (mkT [(0,V.lst 3 (itl a)),(1,V.lst 1 (pll p)),(2,V.lst 1 (nl v)),(6,V.ptr (Id.p 0) 0 0),(9,V.ptr (Id.p 1) 0 0),(10,iv (IntKind.i64.wrap ((↑n:Int)+(1:Int))))]) (Hp.mk [(0,O.rows 3 false [[nilS,iv (0:Int),nilS]]),(1,O.rows 3 false [[V.sl (Id.p 2) 0 q.length,iv z,V.lst d (itl l)]]),(2,O.rows 1 true (nn q))] 3 []))))) (by kernel_rfl) ?_
    rw [hpl,← hL]
    refine ifB_mk (fun e=>?_) (fun e=>?_)
    ·have hi:i<L:=by have:=of_decide_eq_true e; omega
     have st:=next hi
     rw [tk_succ,← hr] at st
     rw [bit_at i (by omega) n (by omega),wr1i hi (by omega)]
     cases hb:n.testBit i with
     | true =>
      rw [if_pos hb,valT_snoc,← hy] at st
      have hvb:=getD_bd hG.vr i
      rw [hrn] at st
      refine ifB_t rfl (need_mk ⟨hi,onSome_mk (hrow hi) (guardB_mk rfl (iel (getVa (by rw [hG.vl]; omega)) ?_))⟩)
      rw [hset hi,wr (n:=y+_) (by omega) (by omega)]
      exact see (by kernel_rfl) st
     | false =>
      rw [if_neg (by rw [hb]; simp),← hy,← hw] at st
      refine ifB_f rfl ?_
      rw [hrn] at st
      exact see (by kernel_rfl) st
    ·have hi:i=L:=by have:=of_decide_eq_false e; omega
     have hbl:=hbl hi
     have hyv:=hyv hi
     have hrest:=hrest hi
     have hfit:=hfit hi
     rw [hsub,hn1]
     have upd:FitC a p n→(∀ n1 d1,some (n0,d0)=some (n1,d1)→Bet (keyT v n) (keyT v n1)) → ∀ (Q:V→Prop),(∀ vv,vv=lsI (resF p w 1 a)→Q vv)→K0G Try.prog glX 76 [.lst 3 (itl a),.lst 1 (pll p),.lst 1 (ul w),V.raw (Value.int IntKind.u8 (1:Int))] Q:=fun _ _ Q hQ=>rest76 (m:=1) ka n8 (by rw [hwl,hL]) hG.st (hQ _ rfl)
     have tak:FitC a p n→(∀ n1 d1,some (n0,d0)=some (n1,d1)→Bet (keyT v n) (keyT v n1)) → ∀ dd,(dd=3∨resF p w 1 a=[])→J (shB1 a p v y dd (resF p w 1 a) (n+1)):=fun q1 q2 dd hdd=>by
      have:=take hn q1 q2 dd (by rw [← hrest]; exact hdd)
      rw [fam27_e (by rw [← hbl]; exact hrn),← hyv,← hrest] at this
      exact this
     have go:FitC a p n→(∀ n1 d1,some (n0,d0)=some (n1,d1)→Bet (keyT v n) (keyT v n1))→K0G Try.prog glX 76 [.lst 3 (itl a),.lst 1 (pll p),.lst 1 (ul w),V.raw (Value.int IntKind.u8 (1:Int))] (fun vv=>onLst vv fun s es=>J (⟨mkT [(0,V.lst 3 (itl a)),(1,V.lst 1 (pll p)),(2,V.lst 1 (nl v)),(6,V.ptr (Id.p 0) 0 0),(9,V.ptr (Id.p 1) 0 0),(10,iv ((n+1:Nat):Int))],⟨[(0,O.rows 3 false [[nilS,iv (0:Int),nilS]]),(1,O.rows 3 false [[nilS,iv y,V.lst s es]])],2,[]⟩⟩)):=fun q1 q2=>upd q1 q2 _ (fun vv hvv=>by
      obtain ⟨dd,hdd,hN⟩:=lsI_isL (resF p w 1 a)
      rw [hvv]
      exact onLst_isL hN (see (by kernel_rfl) (tak q1 q2 dd hdd)))
     refine fits74 (m:=1) (by omega) n8 (by rw [hwl,hL]) hG.st (onBool_bv (ifB_mk (fun t=>?_) (fun t=>?_)))
     ·have hf:=hfit.1 (dc_trueM t)
      refine ifB_mk (fun t2=>?_) (fun t2=>?_)
      ·have t2:=of_decide_eq_true t2
       exact see (by kernel_rfl) (go hf (fun n1 d1 e1=>by cases e1; exact .inl (by show valT v (bl8 n0)<valT v (bl8 n); omega)))
      ·have t2:=of_decide_eq_false t2
       refine ifB_mk (fun t3=>?_) (fun t3=>kp hn (fun hf=>⟨n0,d,rfl,fun g=>?_⟩))
       ·have t3:y=z:=by simpa using t3
        rw [sub_nn q]
        refine first75n (s:=1) (.inl rfl) (onBool_bv (ifB_mk (fun t4=>?_) (fun t4=>?_)))
        ·have t4:=dc_trueM t4
         exact see (by kernel_rfl) (go hf (fun n1 d1 e1=>by cases e1; exact .inr ⟨by show valT v (bl8 n)=valT v (bl8 n0); omega,by show FstP (bl8 n) (bl8 n0); rw [← hbl,← hq]; rw [hrn]; exact t4⟩))
        ·have t4:=dc_falseM t4
         refine kp hn (fun hf=>⟨n0,d,rfl,fun g=>?_⟩)
         rcases g with g | ⟨_,g⟩
         ·have g:valT v (bl8 n0)<valT v (bl8 n):=g
          omega
         ·have g:FstP (bl8 n) (bl8 n0):=g
          rw [← hbl,← hq] at g
          rw [hrn] at g
          exact t4 g
       ·have t3:y≠z:=by simpa using t3
        rcases g with g | ⟨g,_⟩
        ·have g:valT v (bl8 n0)<valT v (bl8 n):=g
         omega
        ·have g:valT v (bl8 n)=valT v (bl8 n0):=g
         omega
     ·exact kp hn (fun hf=>(dc_falseM t (hfit.2 hf)).elim)
   ·rw [fc2_s hrn]
    refine see (p:=ifB (decide ((↑i:Int)<(↑(pll p).length:Int))) (ifB (((↑n:Int).fdiv ((2:Int) ^ min (↑i:Int).toNat 64)).tmod (2:Int)==(1:Int)) (need (i<L) (onSome (ul w)[0+i]? fun row=>guardB ((0+1).ble row.length) (need ((r.length+1) * 8≤140737488355328) (onSome (nl v)[i]? fun row_1=>onSome row_1[0]? fun v_1=>onIntK IntKind.i64 v_1 fun n_1=>I (St.mk (mkT [(0,V.lst 3 (itl a)),(1,V.lst 1 (pll p)),(2,V.lst 1 (nl v)),(6,V.ptr (Id.p 0) 0 0),(9,V.ptr (Id.p 1) 0 0),(10,iv (↑n:Int)),(11,V.sl (Id.p 3) 0 L),(12,V.ptr (Id.p 4) 0 0),(13,iv (IntKind.i64.wrap ((↑i:Int)+(1:Int))))]) (Hp.mk [(0,O.rows 3 false [[nilS,iv (0:Int),nilS]]),(1,O.rows 3 false [[V.sl (Id.p 2) 0 q.length,iv z,V.lst d (itl l)]]),(2,O.rows 1 true (nn q)),(3,O.rows 1 true ((ul w).set (0+i) (V.raw (Value.int IntKind.u8 (1:Int))::(List.append []) (List.drop 1 row)))),(4,O.rows 3 false [[V.sl (Id.p 5) 0 (r.length+1),iv (IntKind.i64.wrap (y+n_1)),nilS]]),(5,O.rows 1 true (List.take r.length (nn r)++[[iv (↑i:Int)]]))] 6 [])))))) (I (St.mk (mkT [(0,V.lst 3 (itl a)),(1,V.lst 1 (pll p)),(2,V.lst 1 (nl v)),(6,V.ptr (Id.p 0) 0 0),(9,V.ptr (Id.p 1) 0 0),(10,iv (↑n:Int)),(11,V.sl (Id.p 3) 0 L),(12,V.ptr (Id.p 4) 0 0),(13,iv (IntKind.i64.wrap ((↑i:Int)+(1:Int))))]) (Hp.mk [(0,O.rows 3 false [[nilS,iv (0:Int),nilS]]),(1,O.rows 3 false [[V.sl (Id.p 2) 0 q.length,iv z,V.lst d (itl l)]]),(2,O.rows 1 true (nn q)),(3,O.rows 1 true (ul w)),(4,O.rows 3 false [[V.sl (Id.p 5) 0 r.length,iv y,nilS]]),(5,O.rows 1 true (nn r))] 6 [])))) (K0G Try.prog glX 74 [V.lst 3 (itl a),V.lst 1 (pll p),V.lst 1 (sub (ul w) 0 L),V.raw (Value.int IntKind.u8 (1:Int))] fun v_1=>onBool v_1 fun b=>ifB b (ifB (decide (y > z)) (K0G Try.prog glX 76 [V.lst 3 (itl a),V.lst 1 (pll p),V.lst 1 (sub (ul w) 0 L),V.raw (Value.int IntKind.u8 (1:Int))] fun v_2=>onLst v_2 fun s es=>J (St.mk (mkT [(0,V.lst 3 (itl a)),(1,V.lst 1 (pll p)),(2,V.lst 1 (nl v)),(6,V.ptr (Id.p 0) 0 0),(9,V.ptr (Id.p 1) 0 0),(10,iv (IntKind.i64.wrap ((↑n:Int)+(1:Int))))]) (Hp.mk [(0,O.rows 3 false [[nilS,iv (0:Int),nilS]]),(1,O.rows 3 false [[V.sl (Id.p 2) 0 r.length,iv y,V.lst s es]]),(2,O.rows 1 true (nn r))] 3 []))) (ifB (y==z) (K0G Try.prog glX 75 [V.lst 1 (sub (nn r) 0 r.length),V.lst 1 (sub (nn q) 0 q.length)] fun v_2=>onBool v_2 fun b=>ifB b (K0G Try.prog glX 76 [V.lst 3 (itl a),V.lst 1 (pll p),V.lst 1 (sub (ul w) 0 L),V.raw (Value.int IntKind.u8 (1:Int))] fun v_3=>onLst v_3 fun s es=>J (St.mk (mkT [(0,V.lst 3 (itl a)),(1,V.lst 1 (pll p)),(2,V.lst 1 (nl v)),(6,V.ptr (Id.p 0) 0 0),(9,V.ptr (Id.p 1) 0 0),(10,iv (IntKind.i64.wrap ((↑n:Int)+(1:Int))))]) (Hp.mk [(0,O.rows 3 false [[nilS,iv (0:Int),nilS]]),(1,O.rows 3 false [[V.sl (Id.p 2) 0 r.length,iv y,V.lst s es]]),(2,O.rows 1 true (nn r))] 3 []))) (J (St.mk (mkT [(0,V.lst 3 (itl a)),(1,V.lst 1 (pll p)),(2,V.lst 1 (nl v)),(6,V.ptr (Id.p 0) 0 0),(9,V.ptr (Id.p 1) 0 0),(10,iv (IntKind.i64.wrap ((↑n:Int)+(1:Int))))]) (Hp.mk [(0,O.rows 3 false [[nilS,iv (0:Int),nilS]]),(1,O.rows 3 false [[V.sl (Id.p 2) 0 q.length,iv z,V.lst d (itl l)]]),(2,O.rows 1 true (nn q))] 3 [])))) (J (St.mk (mkT [(0,V.lst 3 (itl a)),(1,V.lst 1 (pll p)),(2,V.lst 1 (nl v)),(6,V.ptr (Id.p 0) 0 0),(9,V.ptr (Id.p 1) 0 0),(10,iv (IntKind.i64.wrap ((↑n:Int)+(1:Int))))]) (Hp.mk [(0,O.rows 3 false [[nilS,iv (0:Int),nilS]]),(1,O.rows 3 false [[V.sl (Id.p 2) 0 q.length,iv z,V.lst d (itl l)]]),(2,O.rows 1 true (nn q))] 3 []))))) (J (St.mk (mkT [(0,V.lst 3 (itl a)),(1,V.lst 1 (pll p)),(2,V.lst 1 (nl v)),(6,V.ptr (Id.p 0) 0 0),(9,V.ptr (Id.p 1) 0 0),(10,iv (IntKind.i64.wrap ((↑n:Int)+(1:Int))))]) (Hp.mk [(0,O.rows 3 false [[nilS,iv (0:Int),nilS]]),(1,O.rows 3 false [[V.sl (Id.p 2) 0 q.length,iv z,V.lst d (itl l)]]),(2,O.rows 1 true (nn q))] 3 []))))) (by kernel_rfl) ?_
    rw [hpl,← hL]
    refine ifB_mk (fun e=>?_) (fun e=>?_)
    ·have hi:i<L:=by have:=of_decide_eq_true e; omega
     have st:=next hi
     rw [tk_succ,← hr] at st
     rw [bit_at i (by omega) n (by omega),wr1i hi (by omega)]
     cases hb:n.testBit i with
     | true =>
      rw [if_pos hb,valT_snoc,← hy] at st
      have hvb:=getD_bd hG.vr i
      rw [fc2_s (by simp)] at st
      refine ifB_t rfl (need_mk ⟨hi,onSome_mk (hrow hi) (guardB_mk rfl (need_mk ⟨by omega,iel (getVa (by rw [hG.vl]; omega)) ?_⟩))⟩)
      rw [hset hi,wr (n:=y+_) (by omega) (by omega),nn_take]
      refine hJ' ?_ st
      simp only [shC2s,nn,List.map_append,List.length_append,List.length_singleton,List.map_cons,List.map_nil]
     | false =>
      rw [if_neg (by rw [hb]; simp),← hy,← hw] at st
      refine ifB_f rfl ?_
      rw [fc2_s hrn] at st
      exact see (by kernel_rfl) st
    ·have hi:i=L:=by have:=of_decide_eq_false e; omega
     have hbl:=hbl hi
     have hyv:=hyv hi
     have hrest:=hrest hi
     have hfit:=hfit hi
     rw [hsub,hn1]
     have upd:FitC a p n→(∀ n1 d1,some (n0,d0)=some (n1,d1)→Bet (keyT v n) (keyT v n1)) → ∀ (Q:V→Prop),(∀ vv,vv=lsI (resF p w 1 a)→Q vv)→K0G Try.prog glX 76 [.lst 3 (itl a),.lst 1 (pll p),.lst 1 (ul w),V.raw (Value.int IntKind.u8 (1:Int))] Q:=fun _ _ Q hQ=>rest76 (m:=1) ka n8 (by rw [hwl,hL]) hG.st (hQ _ rfl)
     have tak:FitC a p n→(∀ n1 d1,some (n0,d0)=some (n1,d1)→Bet (keyT v n) (keyT v n1)) → ∀ dd,(dd=3∨resF p w 1 a=[])→J (shB2 a p v r y dd (resF p w 1 a) (n+1)):=fun q1 q2 dd hdd=>by
      have:=take hn q1 q2 dd (by rw [← hrest]; exact hdd)
      rw [fam27_s (by rw [← hbl]; exact hrn),← hyv,← hrest,← hbl] at this
      exact this
     have go:FitC a p n→(∀ n1 d1,some (n0,d0)=some (n1,d1)→Bet (keyT v n) (keyT v n1))→K0G Try.prog glX 76 [.lst 3 (itl a),.lst 1 (pll p),.lst 1 (ul w),V.raw (Value.int IntKind.u8 (1:Int))] (fun vv=>onLst vv fun s es=>J (⟨mkT [(0,V.lst 3 (itl a)),(1,V.lst 1 (pll p)),(2,V.lst 1 (nl v)),(6,V.ptr (Id.p 0) 0 0),(9,V.ptr (Id.p 1) 0 0),(10,iv ((n+1:Nat):Int))],⟨[(0,O.rows 3 false [[nilS,iv (0:Int),nilS]]),(1,O.rows 3 false [[V.sl (Id.p 2) 0 r.length,iv y,V.lst s es]]),(2,O.rows 1 true (nn r))],3,[]⟩⟩)):=fun q1 q2=>upd q1 q2 _ (fun vv hvv=>by
      obtain ⟨dd,hdd,hN⟩:=lsI_isL (resF p w 1 a)
      rw [hvv]
      exact onLst_isL hN (see (by kernel_rfl) (tak q1 q2 dd hdd)))
     refine fits74 (m:=1) (by omega) n8 (by rw [hwl,hL]) hG.st (onBool_bv (ifB_mk (fun t=>?_) (fun t=>?_)))
     ·have hf:=hfit.1 (dc_trueM t)
      refine ifB_mk (fun t2=>?_) (fun t2=>?_)
      ·have t2:=of_decide_eq_true t2
       exact see (by kernel_rfl) (go hf (fun n1 d1 e1=>by cases e1; exact .inl (by show valT v (bl8 n0)<valT v (bl8 n); omega)))
      ·have t2:=of_decide_eq_false t2
       refine ifB_mk (fun t3=>?_) (fun t3=>kp hn (fun hf=>⟨n0,d,rfl,fun g=>?_⟩))
       ·have t3:y=z:=by simpa using t3
        rw [sub_nn r,sub_nn q]
        refine first75 (u:=1) (s:=1) (.inl rfl) (.inl rfl) (by omega) (onBool_bv (ifB_mk (fun t4=>?_) (fun t4=>?_)))
        ·have t4:=dc_trueM t4
         exact see (by kernel_rfl) (go hf (fun n1 d1 e1=>by cases e1; exact .inr ⟨by show valT v (bl8 n)=valT v (bl8 n0); omega,by show FstP (bl8 n) (bl8 n0); rw [← hbl,← hq]; exact t4⟩))
        ·have t4:=dc_falseM t4
         refine kp hn (fun hf=>⟨n0,d,rfl,fun g=>?_⟩)
         rcases g with g | ⟨_,g⟩
         ·have g:valT v (bl8 n0)<valT v (bl8 n):=g
          omega
         ·have g:FstP (bl8 n) (bl8 n0):=g
          rw [← hbl,← hq] at g
          exact t4 g
       ·have t3:y≠z:=by simpa using t3
        rcases g with g | ⟨g,_⟩
        ·have g:valT v (bl8 n0)<valT v (bl8 n):=g
         omega
        ·have g:valT v (bl8 n)=valT v (bl8 n0):=g
         omega
     ·exact kp hn (fun hf=>(dc_falseM t (hfit.2 hf)).elim)
theorem bef_irr {x:It} : ¬ Bef x x:=by unfold Bef; omega
theorem bef_asym {x y:It} (h:Bef x y) (g:Bef y x):False:=by unfold Bef at *; omega
theorem pw_eq : ∀ {l m:List It},l.Pairwise Bef→m.Pairwise Bef→(∀ x,x∈l↔x∈m)→l=m
 | [],m,_,_,h=>by
  cases m with
  | nil=>rfl
  | cons y m=>exact absurd ((h y).2 (by simp)) (by simp)
 | x::l,[],_,_,h=>absurd ((h x).1 (by simp)) (by simp)
 | x::l,y::m,hl,hm,h=>by
  obtain ⟨l1,l2⟩:=List.pairwise_cons.1 hl
  obtain ⟨m1,m2⟩:=List.pairwise_cons.1 hm
  have hxy:x=y:=by
   rcases List.mem_cons.1 ((h x).1 (by simp)) with e | e
   ·exact e
   ·rcases List.mem_cons.1 ((h y).2 (by simp)) with e2 | e2
    ·exact e2.symm
    ·exact (bef_asym (m1 x e) (l1 y e2)).elim
  subst hxy
  rw [pw_eq l2 m2 (fun z=>⟨fun hz=>by
   rcases List.mem_cons.1 ((h z).1 (by simp [hz])) with e | e
   ·exact absurd (l1 z hz) (by rw [e]; exact bef_irr)
   ·exact e,fun hz=>by
   rcases List.mem_cons.1 ((h z).2 (by simp [hz])) with e | e
   ·exact absurd (m1 z hz) (by rw [e]; exact bef_irr)
   ·exact e⟩)]
theorem g_ext {l m:List It} (hl:G l) (hm:G m) (h : ∀ a b,hasF l a b=hasF m a b):l=m:=by
 have key : ∀ {l m:List It},G l→G m→(∀ a b,hasF l a b=hasF m a b) → ∀ x∈l,x∈m:=by
  intro l m hl hm h x hx
  have h1:=hl.has hx
  have h2:=hl.2 x hx
  rw [h] at h1
  obtain ⟨y,hy,e1,e2⟩:=has_mem (l:=m) (a:=x.1) (b:=x.2.1) (by omega)
  have h3:=hm.has hy
  rw [e1,e2,h1] at h3
  have:y=x:=Prod.ext e1 (Prod.ext e2 h3.symm)
  rw [← this]; exact hy
 exact pw_eq hl.1 hm.1 (fun x=>⟨key hl hm h x,key hm hl (fun a b=>(h a b).symm) x⟩)
theorem wS_who (n:Nat) (T:List Nat):wS n T []=whoF n T:=by simp [wS,whoF]
theorem eAll_gd {p:List (List It)} {v:List Int} (h:Gd p v):eAll p v=0:=by
 unfold eAll ePl
 have h1:=h.n8
 have h2:=h.vl
 rw [if_pos (dc_tM h.st),if_neg (by omega),if_neg (by omega),if_pos (dc_tM h.vr)]
theorem fit_iff {a:List It} {p:List (List It)} {n:Nat} (ka:Stk a) (hs : ∀ l∈p,Stk l) (hn:n<2 ^ p.length):FitC a p n ↔ ∀ i j,needF p (bl8 n) i j≤hasF a i j:=by
 unfold FitC
 rw [wS_who]
 exact built_need ka.g (fun l hl=>(hs l hl).g) (fun i hi=>bl8_lt hn hi) (bl8_sorted n)
theorem resF_mem {p:List (List It)} {w:List Nat} {m:Nat} {a:List It} {y:It} (h:y∈resF p w m a) : ∃ x∈a,x.1=y.1∧x.2.1=y.2.1∧1≤y.2.2:=by
 unfold resF at h
 obtain ⟨x,hx,e⟩:=List.mem_filterMap.1 h
 split at e
 ·rw [Option.some.injEq] at e
  subst e
  exact ⟨x,hx,rfl,rfl,by simp only; omega⟩
 ·cases e
theorem resF_cons (p:List (List It)) (w:List Nat) (m:Nat) (x:It) (a:List It):resF p w m (x::a)=(if 0<x.2.2 - sumF p w m x then [(x.1,x.2.1,x.2.2 - sumF p w m x)] else [])++resF p w m a:=by
 unfold resF
 rw [List.filterMap_cons]
 split <;> rename_i q
 ·split at q
  ·cases q
  ·rename_i r; rw [if_neg r]; rfl
 ·split at q
  ·rename_i r
   rw [Option.some.injEq] at q
   rw [if_pos r,← q]; rfl
  ·cases q
theorem resF_G {p:List (List It)} {w:List Nat} {m:Nat} : ∀ {a:List It},G a→G (resF p w m a)
 | [],_=>G.nil
 | x::a,h=>by
  have ih:=resF_G (p:=p) (w:=w) (m:=m) h.tail
  rw [resF_cons]
  split
  ·rename_i hp
   refine ⟨List.pairwise_cons.2 ⟨fun y hy=>?_,ih.1⟩,fun y hy=>?_⟩
   ·obtain ⟨z,hz,e1,e2,_⟩:=resF_mem hy
    have:=(List.pairwise_cons.1 h.1).1 z hz
    unfold Bef at this ⊢
    rw [e1,e2] at this
    exact this
   ·rcases List.mem_cons.1 hy with e | hy
    ·rw [e]; simp only; omega
    ·exact ih.2 y hy
  ·exact ih
theorem resF_has {p:List (List It)} {w:List Nat} {m:Nat} {i j:Int} {S:Int} (hS : ∀ x:It,x.1=i→x.2.1=j→sumF p w m x=S) (h0:0≤S) : ∀ {a:List It},G a→S≤hasF a i j→hasF (resF p w m a) i j=hasF a i j - S
 | [],_,h=>by
  have h:S≤0:=h
  show (0:Int)=0 - S
  omega
 | x::a,hg,h=>by
  rw [resF_cons,has_cons]
  rw [has_cons] at h
  by_cases e:x.1=i∧x.2.1=j
  ·rw [if_pos e] at h ⊢
   have hs:=hS x e.1 e.2
   rw [hs]
   split
   ·rename_i hp
    show hasF (_::resF p w m a) i j=_
    rw [has_cons,if_pos e]
   ·rename_i hp
    have hn:hasF (resF p w m a) i j=0:=has_none fun y hy q=>by
     obtain ⟨z,hz,e1,e2,_⟩:=resF_mem hy
     exact ((List.pairwise_cons.1 hg.1).1 z hz).ne ⟨by rw [e1,q.1,e.1],by rw [e2,q.2,e.2]⟩
    show hasF (resF p w m a) i j=_
    rw [hn]; omega
  ·rw [if_neg e] at h ⊢
   have ih:=resF_has hS h0 hg.tail h
   split
   ·show hasF (_::resF p w m a) i j=_
    rw [has_cons,if_neg e]
    exact ih
   ·exact ih
theorem rest_eq {a l:List It} {p:List (List It)} {v:List Int} {n:Nat} {z:Int} (ka:Stk a) (hs : ∀ l∈p,Stk l) (hn:n<2 ^ p.length) (h:choF p v (bl8 n) 0 a=some (z,l)):l=resT a p n:=by
 have gp : ∀ l∈p,G l:=fun l hl=>(hs l hl).g
 obtain ⟨_,c2,_,c4⟩:=cho_some gp ka.g h
 refine g_ext c2 (resF_G ka.g) (fun i j=>?_)
 have hd:=needF_pos gp (bl8 n) i j
 have hle:=c4 i j
 have hge:=c2.pos i j
 unfold resT
 rw [resF_has (S:=needF p (bl8 n) i j) (fun x e1 e2=>by rw [wS_who,sumF_need x (fun i hi=>bl8_lt hn hi) (bl8_sorted n),e1,e2]) hd ka.g (by omega)]
 exact hle
theorem cho_val {a l:List It} {p:List (List It)} {v:List Int} {q:List Nat} {z:Int} (ka:Stk a) (hs : ∀ l∈p,Stk l) (h:choF p v q 0 a=some (z,l)):z=valT v q:=by
 obtain ⟨c1,_⟩:=cho_some (fun l hl=>(hs l hl).g) ka.g h
 rw [c1]; simp [valT,sumN]
theorem cho_fit {a l:List It} {p:List (List It)} {v:List Int} {n:Nat} {z:Int} (ka:Stk a) (hs : ∀ l∈p,Stk l) (hn:n<2 ^ p.length) (h:choF p v (bl8 n) 0 a=some (z,l)):FitC a p n:=by
 obtain ⟨_,c2,_,c4⟩:=cho_some (fun l hl=>(hs l hl).g) ka.g h
 refine (fit_iff ka hs hn).2 (fun i j=>?_)
 have:=c4 i j
 have:=c2.pos i j
 omega
theorem fit_cho {a:List It} {p:List (List It)} {v:List Int} {q:List Nat} (ka:Stk a) (hs : ∀ l∈p,Stk l) (h : ∀ i j,needF p q i j≤hasF a i j) : ∃ l,choF p v q 0 a=some (valT v q,l):=by
 obtain ⟨m,hm⟩:=cho_all (v:=v) (n:=0) (fun l hl=>(hs l hl).g) ka.g h
 have:=cho_val ka hs (show choF p v q 0 a=some (m.1,m.2) from hm)
 exact ⟨m.2,by rw [hm,← this]⟩
set_option maxHeartbeats 1000000 in
theorem pairC {a:List It} {p:List (List It)} {v:List Int} {K:Nat→List (List V)→Int→Nat→List (List V)→Int→Nat→List (List V)→Int→Nat→List (List V)→Int→Prop} (hp:p.length≤1000) (hv:v.length≤1000)
  (h : ∀ (q:List Nat) (z:Int) (l:List It) (e:Int) (s1 d1 s2 d2:Nat),(s1=1∨q=[])→(s2=1∨q=[])→(l=[]∨d1=3)→(l=[]∨d2=3)→l.length≤1000→q.length≤1000→K s1 (nn q) z d1 (itl l) e s2 (nn q) z d2 (itl l) e) :
  K0G Try.prog glX 26 [.lst 3 (itl a),.lst 1 (pll p),.lst 1 (nl v)] fun v_3=>onTup v_3 fun vs=>onCons vs fun u r=>onAgg u fun cs=>onCons cs fun u r_1=>onLst u fun s es=>onCons r_1 fun u r_2=>onIntK IntKind.i64 u fun n=>onCons r_2 fun u r_3=>onLst u fun s_1 es_1=>onNil r_3 (onCons r fun u r=>onIntK IntKind.i64 u fun n_1=>onNil r (K0G Try.prog glX 27 [.lst 3 (itl a),.lst 1 (pll p),.lst 1 (nl v)] fun v_4=>onTup v_4 fun vs=>onCons vs fun u r=>onAgg u fun cs=>onCons cs fun u r_4=>onLst u fun s_2 es_2=>onCons r_4 fun u r_5=>onIntK IntKind.i64 u fun n_2=>onCons r_5 fun u r_6=>onLst u fun s_3 es_3=>onNil r_6 (onCons r fun u r=>onIntK IntKind.i64 u fun n_3=>onNil r (K s es n s_1 es_1 n_1 s_2 es_2 n_2 s_3 es_3 n_3)))):=by
 have e0:=fun e=>h [] 0 [] e 0 0 0 0 (.inr rfl) (.inr rfl) (.inl rfl) (.inl rfl) (by simp) (by simp)
 refine choose26x hp hv (fun h8=>onTup_tup (onCons_cons (onAgg_agg (onCons_cons (onLst_nil (onCons_cons (onIntK_iv (onCons_cons (onLst_nil (onNil_nil (onCons_cons (onIntK_iv (onNil_nil ?_))))))))))))) (fun ka hne=>onTup_tup (onCons_cons (onAgg_agg (onCons_cons (onLst_nil (onCons_cons (onIntK_iv (onCons_cons (onLst_nil (onNil_nil (onCons_cons (onIntK_iv (onNil_nil ?_))))))))))))) (fun ka hG s val l d d1 hs hc hbest hd1 hd=>onTup_tup (onCons_cons (onAgg_agg (onCons_cons (onLst_lst (onCons_cons (onIntK_iv (onCons_cons (onLst_lst (onNil_nil (onCons_cons (onIntK_iv (onNil_nil ?_)))))))))))))
 ·exact refChoose27 hp hv (fun _=>onTup_tup (onCons_cons (onAgg_agg (onCons_cons (onLst_nil (onCons_cons (onIntK_iv (onCons_cons (onLst_nil (onNil_nil (onCons_cons (onIntK_iv (onNil_nil (e0 8))))))))))))))  (fun ka=>(h8 ka).elim) (fun ka=>(h8 ka).elim)
 ·exact refChoose27 hp hv (fun h8=>(h8 ka).elim) (fun _ _=>onTup_tup (onCons_cons (onAgg_agg (onCons_cons (onLst_nil (onCons_cons (onIntK_iv (onCons_cons (onLst_nil (onNil_nil (onCons_cons (onIntK_iv (onNil_nil (e0 _)))))))))))))) (fun _ hG=>(hne (eAll_gd hG)).elim)
 ·refine refChoose27 hp hv (fun h8=>(h8 ka).elim) (fun _ hne=>(hne (eAll_gd hG)).elim) (fun _ _ n0 dd hn0 hf hb hdd=>?_)
  have fs:=cho_fit ka hG.st hs hc
  have vs:=cho_val ka hG.st hc
  obtain ⟨l0,hl0⟩:=fit_cho (v:=v) (q:=bl8 n0) ka hG.st ((fit_iff ka hG.st hn0).1 hf)
  have hbl:bl8 s=bl8 n0:=Classical.byContradiction fun hne=>by
   rcases Bet.tot (x:=(val,bl8 s)) (y:=(valT v (bl8 n0),bl8 n0)) hne with q | q
   ·exact hb s hs fs (by unfold keyT; rw [← vs]; exact q)
   ·exact hbest n0 _ l0 hn0 hl0 q
  have hl:l=resT a p n0:=by
   rw [hbl] at hc
   exact rest_eq ka hG.st hn0 hc
  rw [← hbl,← hl,← vs]
  have hll:l.length≤1000:=by
   rw [hl]
   have:=resF_len p (wS p.length (bl8 n0) []) 1 a
   have:=ka.1
   unfold resT
   omega
  have h8:=bl8_len s
  refine onTup_tup (onCons_cons (onAgg_agg (onCons_cons ?_)))
  obtain ⟨d2,hd2,hN⟩:=lsN_isL (bl8 s)
  refine onLst_isL hN (onCons_cons (onIntK_iv (onCons_cons (onLst_lst (onNil_nil (onCons_cons (onIntK_iv (onNil_nil ?_))))))))
  exact h (bl8 s) val l 0 d1 d d2 dd hd1 hd2 hd.symm (by rw [hl]; exact hdd.symm) hll (by omega)
theorem dgW_at {L n j:Nat} (h:j<L):(dgW L n L)[j]? = some (dg L n j):=by rw [dgW_get h,if_pos (by omega)]
def pre (L n j:Nat):Nat:=n / 3 ^ (L - j)
theorem pre_succ {L n j:Nat} (h:j<L):pre L n (j+1)=3 * pre L n j+dg L n j:=by
 unfold pre dg
 have e:L - j=(L - 1 - j)+1:=by omega
 rw [show L - (j+1)=L - 1 - j from by omega,e,Nat.pow_succ,← Nat.div_div_eq_div_mul]
 omega
theorem dig_lt {L n m:Nat} (hn:n<3 ^ L) (hm:m<3 ^ L) (h:n<m):LexL (dgW L n L) (dgW L m L):=by
 have p0 : ∀ z,z<3 ^ L→pre L z 0=0:=fun z hz=>Nat.div_eq_of_lt hz
 have pL : ∀ z,pre L z L=z:=fun z=>by unfold pre; rw [Nat.sub_self]; simp
 have key : ∀ i,i≤L→pre L n i=pre L m i∧(∀ j,j<i→dg L n j=dg L m j) ∨ ∃ k,k<i∧pre L n k=pre L m k∧(∀ j,j<k→dg L n j=dg L m j)∧pre L n (k+1)≠pre L m (k+1):=by
  intro i
  induction i with
  | zero=>intro _; exact .inl ⟨by rw [p0 n hn,p0 m hm],fun j hj=>by omega⟩
  | succ i ih =>
   intro hi
   rcases ih (by omega) with ⟨e,hd⟩ | ⟨k,k1,k2,k3,k4⟩
   ·by_cases q:pre L n (i+1)=pre L m (i+1)
    ·refine .inl ⟨q,fun j hj=>?_⟩
     rcases Nat.lt_succ_iff_lt_or_eq.1 hj with r | r
     ·exact hd j r
     ·rw [r]
      rw [pre_succ (by omega),pre_succ (by omega),e] at q
      omega
    ·exact .inr ⟨i,by omega,e,hd,q⟩
   ·exact .inr ⟨k,by omega,k2,k3,k4⟩
 rcases key L (Nat.le_refl _) with ⟨e,_⟩ | ⟨k,k1,k2,k3,k4⟩
 ·rw [pL,pL] at e; omega
 ·have hle:pre L n (k+1)≤pre L m (k+1):=Nat.div_le_div_right (by omega)
  rw [pre_succ k1,pre_succ k1,k2] at hle k4
  refine ⟨k,dg L n k,dg L m k,?_,dgW_at k1,dgW_at k1,by omega⟩
  refine List.ext_getElem? fun i=>?_
  rw [List.getElem?_take,List.getElem?_take]
  split
  ·rename_i hi
   rw [dgW_at (by omega),dgW_at (by omega),k3 i hi]
  ·rfl
theorem num_of : ∀ (L:Nat) (f:Nat→Nat),(∀ j,f j<3) → ∃ n,n<3 ^ L ∧ ∀ j,j<L→dg L n j=f j
 | 0,f,_=>⟨0,by simp,fun j hj=>by omega⟩
 | L+1,f,hf=>by
  obtain ⟨n,h1,h2⟩:=num_of L f hf
  have hl:=hf L
  refine ⟨3 * n+f L,by rw [Nat.pow_succ]; omega,fun j hj=>?_⟩
  unfold dg
  rcases Nat.lt_succ_iff_lt_or_eq.1 hj with q | q
  ·have:=h2 j q
   unfold dg at this
   rw [← this,show L+1 - 1 - j=(L - 1 - j)+1 from by omega,Nat.pow_succ,Nat.mul_comm (3 ^ (L - 1 - j)) 3,← Nat.div_div_eq_div_mul,show (3 * n+f L) / 3=n from by omega]
  ·subst q
   rw [show j+1 - 1 - j=0 from by omega]
   simp
   omega
theorem set_of (P:Nat→Bool) : ∀ L, ∃ s,s<2 ^ L ∧ ∀ i,i<L→s.testBit i=P i
 | 0=>⟨0,by simp,fun i hi=>by omega⟩
 | L+1=>by
  obtain ⟨s,h1,h2⟩:=set_of P L
  cases hP:P L with
  | false =>
   refine ⟨s,by rw [Nat.pow_succ]; omega,fun i hi=>?_⟩
   rcases Nat.lt_succ_iff_lt_or_eq.1 hi with q | q
   ·exact h2 i q
   ·rw [q,hP,Nat.testBit_lt_two_pow h1]
  | true =>
   refine ⟨2 ^ L+s,by rw [Nat.pow_succ]; omega,fun i hi=>?_⟩
   rcases Nat.lt_succ_iff_lt_or_eq.1 hi with q | q
   ·rw [Nat.testBit_two_pow_add_gt q]; exact h2 i q
   ·rw [q,hP,Nat.testBit_two_pow_add_eq,Nat.testBit_lt_two_pow h1]; rfl
theorem dgV_wor (v:List Int) (L n:Nat):dgV v L n L=worF v (dgW L n L) L:=by
 unfold dgV worF
 refine sumN_ext fun j hj=>?_
 have hj:=List.mem_range.1 hj
 have e:(dgW L n L).getD j 0=dg L n j:=by rw [List.getD_eq_getElem?_getD,dgW_at hj]; rfl
 rw [e]
 by_cases q:dg L n j=0
 ·rw [if_neg (fun r=>r.2 q),if_neg (by omega)]
 ·rw [if_pos ⟨by omega,q⟩,if_pos (by omega)]
theorem bl8_at {L s i:Nat} (h8:L≤8) (hi:i<L):i∈bl8 s↔s.testBit i=true:=by rw [bl8_mem]; exact ⟨fun q=>q.2,fun q=>⟨by omega,q⟩⟩
theorem sets_of {L n:Nat} (h8:L≤8) : ∃ s t,s<2 ^ L∧t<2 ^ L∧s &&& t=0∧dgW L n L=wS L (bl8 s) (bl8 t):=by
 obtain ⟨s,s1,s2⟩:=set_of (fun i=>decide (dg L n i=1)) L
 obtain ⟨t,t1,t2⟩:=set_of (fun i=>decide (dg L n i=2)) L
 refine ⟨s,t,s1,t1,?_,?_⟩
 ·apply Nat.eq_of_testBit_eq
  intro i
  rw [Nat.testBit_and]
  by_cases hi:i<L
  ·rw [s2 i hi,t2 i hi]
   by_cases q:dg L n i=1 <;> simp [q]
  ·have:s.testBit i=false:=by
    cases hb:s.testBit i with
    | false=>rfl
    | true=>have:=bit_lt s1 hb; omega
   simp [this]
 ·apply List.ext_getElem?
  intro i
  by_cases hi:i<L
  ·rw [dgW_at hi,wS_get _ _ hi]
   have hd:dg L n i<3:=Nat.mod_lt _ (by omega)
   congr 1
   by_cases q2:dg L n i=2
   ·rw [if_pos ((bl8_at h8 hi).2 (by rw [t2 i hi]; simp [q2]))]; exact q2
   ·rw [if_neg (fun r=>by rw [bl8_at h8 hi,t2 i hi] at r; simp at r; exact q2 r)]
    by_cases q1:dg L n i=1
    ·rw [if_pos ((bl8_at h8 hi).2 (by rw [s2 i hi]; simp [q1]))]; exact q1
    ·rw [if_neg (fun r=>by rw [bl8_at h8 hi,s2 i hi] at r; simp at r; exact q1 r)]; omega
  ·rw [List.getElem?_eq_none_iff.2 (by rw [dgW_len]; omega),List.getElem?_eq_none_iff.2 (by rw [wS_len]; omega)]
theorem dig_of {L s t:Nat} : ∃ n,n<3 ^ L∧dgW L n L=wS L (bl8 s) (bl8 t):=by
 obtain ⟨n,h1,h2⟩:=num_of L (fun i=>if i∈bl8 t then 2 else if i∈bl8 s then 1 else 0) (fun j=>by split; omega; split <;> omega)
 refine ⟨n,h1,?_⟩
 apply List.ext_getElem?
 intro i
 by_cases hi:i<L
 ·rw [dgW_at hi,wS_get _ _ hi,h2 i hi]
 ·rw [List.getElem?_eq_none_iff.2 (by rw [dgW_len]; omega),List.getElem?_eq_none_iff.2 (by rw [wS_len]; omega)]
theorem built_one {a:List It} {p:List (List It)} {s t:Nat} (ka:Stk a) (hs : ∀ l∈p,Stk l) (h1:s<2 ^ p.length) (h0:s &&& t=0):Built a p (wS p.length (bl8 s) (bl8 t)) 1 ↔ ∀ i j,needF p (bl8 s) i j≤hasF a i j:=by
 rw [← built_need ka.g (fun l hl=>(hs l hl).g) (fun i hi=>bl8_lt h1 hi) (bl8_sorted s)]
 exact ⟨built_cong (by rw [wS_len,whoF_len]) (fun i=>(wS_one h0 i).symm),built_cong (by rw [wS_len,whoF_len]) (wS_one h0)⟩
theorem built_two {b:List It} {p:List (List It)} {s t:Nat} (kb:Stk b) (hs : ∀ l∈p,Stk l) (h1:t<2 ^ p.length):Built b p (wS p.length (bl8 s) (bl8 t)) 2 ↔ ∀ i j,needF p (bl8 t) i j≤hasF b i j:=by
 rw [← built_need kb.g (fun l hl=>(hs l hl).g) (fun i hi=>bl8_lt h1 hi) (bl8_sorted t)]
 exact ⟨built_cong (by rw [wS_len,whoF_len]) (fun i=>(wS_two i).symm),built_cong (by rw [wS_len,whoF_len]) (fun i=>wS_two i)⟩
theorem need_le {a l:List It} {p:List (List It)} {v:List Int} {q:List Nat} {z:Int} (ka:Stk a) (hs : ∀ l∈p,Stk l) (h:choF p v q 0 a=some (z,l)) : ∀ i j,needF p q i j≤hasF a i j:=by
 obtain ⟨_,c2,_,c4⟩:=cho_some (fun l hl=>(hs l hl).g) ka.g h
 intro i j
 have:=c4 i j
 have:=c2.pos i j
 omega
set_option maxHeartbeats 1000000 in
theorem pairS {a b:List It} {p:List (List It)} {v:List Int} {K:Nat→List (List V)→Int→Int→Nat→List (List V)→Int→Int→Prop} (hp:p.length≤1000) (hv:v.length≤1000)
  (h : ∀ (w:List Nat) (z e:Int) (s1 s2:Nat),(∀ x∈w,x≤2)→K s1 (ul w) z e s2 (ul w) z e) :
  K0G Try.prog glX 28 [.lst 3 (itl a),.lst 3 (itl b),.lst 1 (pll p),.lst 1 (nl v)] fun v_5=>onTup v_5 fun vs=>onCons vs fun u r=>onLst u fun s_4 es_4=>onCons r fun u r=>onIntK IntKind.i64 u fun n_4=>onCons r fun u r=>onIntK IntKind.i64 u fun n_5=>onNil r (K0G Try.prog glX 29 [.lst 3 (itl a),.lst 3 (itl b),.lst 1 (pll p),.lst 1 (nl v)] fun v=>onTup v fun vs=>onCons vs fun u r=>onLst u fun s_5 es_5=>onCons r fun u r=>onIntK IntKind.i64 u fun n_6=>onCons r fun u r=>onIntK IntKind.i64 u fun n_7=>onNil r (K s_4 es_4 n_4 n_5 s_5 es_5 n_6 n_7)):=by
 have e0:=fun e=>h [] 0 e 0 0 (by simp)
 refine share28x hp hv (fun h8=>onTup_tup (onCons_cons (onLst_nil (onCons_cons (onIntK_iv (onCons_cons (onIntK_iv (onNil_nil ?_)))))))) (fun ka kb hne=>onTup_tup (onCons_cons (onLst_nil (onCons_cons (onIntK_iv (onCons_cons (onIntK_iv (onNil_nil ?_)))))))) (fun ka kb hG s t x y l m hs ht h0 hx hy hbest=>onTup_tup (onCons_cons (onLst_lst (onCons_cons (onIntK_iv (onCons_cons (onIntK_iv (onNil_nil ?_))))))))
 ·exact refShare29 hp hv (fun _=>onTup_tup (onCons_cons (onLst_nil (onCons_cons (onIntK_iv (onCons_cons (onIntK_iv (onNil_nil (e0 8))))))))) (fun ka kb=>(h8 ⟨ka,kb⟩).elim) (fun ka kb=>(h8 ⟨ka,kb⟩).elim)
 ·exact refShare29 hp hv (fun h8=>(h8 ⟨ka,kb⟩).elim) (fun _ _ _=>onTup_tup (onCons_cons (onLst_nil (onCons_cons (onIntK_iv (onCons_cons (onIntK_iv (onNil_nil (e0 _))))))))) (fun _ _ hG=>(hne (eAll_gd hG)).elim)
 ·refine refShare29 hp hv (fun h8=>(h8 ⟨ka,kb⟩).elim) (fun _ _ hne=>(hne (eAll_gd hG)).elim) (fun _ _ _ n0 hn0 hf hb=>?_)
  have n8:=hG.n8
  obtain ⟨n1,hn1,e1⟩:=dig_of (L:=p.length) (s:=s) (t:=t)
  have f1:FitN a b p n1:=by
   unfold FitN
   rw [e1]
   exact ⟨(built_one ka hG.st hs h0).2 (need_le ka hG.st hx),(built_two kb hG.st ht).2 (need_le kb hG.st hy)⟩
  have v1:dgV v p.length n1 p.length=x+y:=by
   rw [dgV_wor,e1,wor_all n8 hs ht h0,cho_val ka hG.st hx,cho_val kb hG.st hy]
   rfl
  obtain ⟨s', t', hs', ht', h0', e2⟩:=sets_of (L:=p.length) (n:=n0) n8
  have hf' := hf
  unfold FitN at hf'
  rw [e2] at hf'
  obtain ⟨l', hl'⟩:=fit_cho (v:=v) (q:=bl8 s') ka hG.st ((built_one ka hG.st hs' h0').1 hf'.1)
  obtain ⟨m', hm'⟩:=fit_cho (v:=v) (q:=bl8 t') kb hG.st ((built_two kb hG.st ht').1 hf'.2)
  have v0:dgV v p.length n0 p.length=valT v (bl8 s')+valT v (bl8 t'):=by
   rw [dgV_wor,e2,wor_all n8 hs' ht' h0']
   rfl
  have hnb:=hbest s' t' _ _ l' m' hs' ht' h0' hl' hm'
  rw [← v0,← v1,← e2,← e1] at hnb
  obtain ⟨q1,q2⟩:=hb n1 hn1 f1
  have hle : ¬ dgV v p.length n1 p.length<dgV v p.length n0 p.length:=fun g=>hnb (.inl g)
  have heq:dgV v p.length n1 p.length=dgV v p.length n0 p.length:=by omega
  have hn:n0=n1:=by
   have:=q2 heq
   rcases Nat.lt_or_ge n0 n1 with g | g
   ·exact (hnb (.inr ⟨heq.symm,dig_lt hn0 hn1 g⟩)).elim
   ·omega
  rw [hn,v1,e1]
  refine onTup_tup (onCons_cons (onLst_lst (onCons_cons (onIntK_iv (onCons_cons (onIntK_iv (onNil_nil (h _ _ _ _ _ ?_))))))))
  intro z hz
  obtain ⟨i,hi⟩:=List.getElem?_of_mem hz
  have hl:i<p.length:=by have:=(List.getElem?_eq_some_iff.1 hi).1; rw [wS_len] at this; exact this
  rw [wS_get _ _ hl,Option.some.injEq] at hi
  rw [← hi]
  split
  ·omega
  ·split <;> omega
set_option maxRecDepth 100000
def kpL:FuncId→Nat→Option (List Tmp):=slotsOf [(23,0,[0,1,5])]
noncomputable def cfP:Cfg:=cfgM Try.prog glX (fun _=>0) tyC (inN []) kpL
noncomputable def sh23 (s t:Nat) (q:List Nat) (k:Nat):St:=⟨mkT [(0,V.lst s (nn q)),(1,V.lst t (nn q)),(5,iv (k:Int))],⟨[],0,[]⟩⟩
end Go.Proofs.Ytmddjopahcbefaa
