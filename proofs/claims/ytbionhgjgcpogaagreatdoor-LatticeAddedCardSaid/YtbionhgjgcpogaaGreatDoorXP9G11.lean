/- A part of the proof. -/
import Derived.Test.YtbionhgjgcpogaaGreatDoorProg
import Derived.Test.YtbionhgjgcpogaaGreatDoorXP9G10
namespace Go.Proofs.YtbionhgjgcpogaaGreatDoor
open Go Go.Proofs.YtbionhgjgcpogaaGreatDoor.Clean
set_option linter.unusedVariables false
set_option linter.unusedSimpArgs false
set_option maxRecDepth 10000
theorem dir81 {d:Int} {R:V→Prop} (h:R (bv (dc (0≤d∧d≤5)))):K0G Tryz.prog glX 81 [iv d] R:=by
  refine K0_of_WY0 hmX hcC 3000 Tryz.func81 (see (p:=K0G Tryz.prog glX 52 [iv d,iv (0:Int),iv (5:Int)] fun v=>onBool v fun b=>R (bv b)) (by kernel_rfl) ?_)
  exact within52 (onBool_bv h)
theorem index143 {l:List Cl} {c:Cl} {R:V→Prop} (hl:(l.length:Int)≤1000000) (h : ∀ n:Int,(0≤n↔c∈l)→R (iv n)):K0G Tryz.prog glX 143 [.lst 3 (cll l),.agg (clr c)] R:=by
  refine K0_of_WY0 hmX hcC 3000 Tryz.func143 (see (p:=La 0 [(0:Tmp),(3:Tmp),(7:Tmp),(8:Tmp)] (WY Tryz.prog cfC 2995 (Env.mk (Bs.mk 0 []) 0 none 19 143 0) (cdAt [1,0,1,0,0] (bodyOf Tryz.f143))) (Qblk 0 (Qthen (WY Tryz.prog cfC 2998 (Env.mk (Bs.mk 0 []) 0 none 19 143 0) (cdAt [1,1] (bodyOf Tryz.f143)) (QendX Tryz.prog Tryz.f143 fun v h=>R (frzW h v))) (QendX Tryz.prog Tryz.f143 fun v h=>R (frzW h v)))) (St.mk (mkT [(0,V.lst 3 (cll l)),(3,V.ptr (Id.p 0) 0 0),(7,iv (↑(cll l).length:Int)),(8,iv (0:Int))]) (Hp.mk [(0,O.rows 3 false [[iv c.1,iv c.2.1,iv c.2.2]])] 1 []))) (by kernel_rfl) ?_)
  refine La.of (σ:=Nat) (fun k=>sh143 l c k) (fun k=>k≤l.length ∧ ∀ x∈l.take k,x≠c) (fun k=>l.length - k) 0 (by kernel_rfl) ⟨by omega,by simp⟩ ?_
  rintro k ⟨g1,g2⟩ J hJ
  refine see (p:=ifB (decide ((↑k:Int)<(↑(cll l).length:Int))) (onSome (cll l)[k]? fun row=>onCons (List.drop 0 row) fun u r=>onIntK IntKind.i64 u fun n=>onCons r fun u r=>onIntK IntKind.i64 u fun n_1=>onCons r fun u r=>onIntK IntKind.i64 u fun n_2=>ifB (c.1==n&&(fun b=>c.2.1==n_1&&b) ((fun b=>c.2.2==n_2&&b) true)) (R (iv (↑k:Int))) (J (St.mk (mkT [(0,V.lst 3 (cll l)),(3,V.ptr (Id.p 0) 0 0),(7,iv (↑(cll l).length:Int)),(8,iv (IntKind.i64.wrap ((↑k:Int)+(1:Int))))]) (Hp.mk [(0,O.rows 3 false [[iv c.1,iv c.2.1,iv c.2.2]])] 1 [])))) (R (iv (-1:Int)))) (by kernel_rfl) ?_
  rw [cll_length]
  refine ifB_mk (fun hb=>?_) (fun hb=>?_)
  · have hlt:k<l.length:=by have:=of_decide_eq_true hb; omega
    obtain ⟨x,hx⟩:=getI hlt
    refine cel hx (ifB_mk (fun d=>?_) (fun d=>?_))
    · simp only [Bool.and_eq_true,beq_iff_eq,Bool.and_true] at d
      have:c=x:=cl_ext d.1 d.2.1 d.2.2
      exact h _ ⟨fun _=>this ▸ mem_at hx,fun _=>by omega⟩
    · rw [wr1i hlt (by omega)]
      refine hJ' (by simp [sh143,cll_length]; rfl) (hJ (k+1) ⟨hlt,all_take hx g2 (fun e=>?_)⟩ (by omega))
      subst e
      simp at d
  · have hk:l.length≤k:=by have:=of_decide_eq_false hb; omega
    exact h _ ⟨fun h0=>by omega,fun hn=>(all_all hk g2 c hn rfl).elim⟩
theorem contains127 {l:List Cl} {c:Cl} {R:V→Prop} (hl:(l.length:Int)≤1000000) (h:R (bv (dc (c∈l)))):K0G Tryz.prog glX 127 [.lst 3 (cll l),.agg (clr c)] R:=by
  refine K0_of_WY0 hmX hcC 3000 Tryz.func127 (see (p:=K0G Tryz.prog glX 143 [V.lst 3 (cll l),V.agg [iv c.1,iv c.2.1,iv c.2.2]] fun v=>onIntK IntKind.i64 v fun n=>R (bv (decide (n ≥ (0:Int))))) (by kernel_rfl) ?_)
  exact index143 hl (fun n hn=>onIntK_iv (rb h ⟨fun q=>hn.1 (of_decide_eq_true q),fun q=>decide_eq_true (hn.2 q)⟩))
def CellsP (l:List Cl):Prop:=(1≤l.length∧l.length≤24)∧(∀ c∈l,Nr 0 15 c)∧l.Pairwise Bef
theorem areCells50 {l:List Cl} {R:V→Prop} (hl:(l.length:Int)≤1000000) (h:R (bv (dc (CellsP l)))):K0G Tryz.prog glX 50 [.lst 3 (cll l)] R:=by
  refine K0_of_WY0 hmX hcZ 3000 Tryz.func50 (see (p:=K0G Tryz.prog glX 52 [iv (↑(cll l).length:Int),iv (1:Int),iv (24:Int)] fun v=>onBool v fun b=>ifB (!b) (R (bv false)) (La 0 [(0:Tmp),(9:Tmp),(10:Tmp),(11:Tmp)] (WY Tryz.prog cfZ 2994 (Env.mk (Bs.mk 0 []) 0 none 34 50 0) (cdAt [1,1,0,1,0,0] (bodyOf Tryz.f50))) (Qblk 0 (Qthen (WY Tryz.prog cfZ 2997 (Env.mk (Bs.mk 0 []) 0 none 34 50 0) (cdAt [1,1,1] (bodyOf Tryz.f50)) (QendX Tryz.prog Tryz.f50 fun v h=>R (frzW h v))) (QendX Tryz.prog Tryz.f50 fun v h=>R (frzW h v)))) (St.mk (mkT [(0,V.lst 3 (cll l)),(9,V.lst 3 (cll l)),(10,iv (↑(cll l).length:Int)),(11,iv (0:Int))]) (Hp.mk [] 0 [])))) (by kernel_rfl) ?_)
  rw [cll_length]
  refine within52 (onBool_bv (ifB_mk (fun c=>rf h (fun q=>?_)) (fun c=>?_)))
  · rw [dc_t ⟨by have:=q.1.1; omega,by have:=q.1.2; omega⟩] at c; cases c
  have h24:(1:Int)≤l.length∧(l.length:Int)≤24:=dc_true (by cases hq:dc ((1:Int)≤l.length∧(l.length:Int)≤24) with | true=>rfl | false=>rw [hq] at c; cases c)
  refine La.of (σ:=Nat) (fun k=>sh50 l k) (fun k=>k≤l.length∧(∀ x∈l.take k,Nr 0 15 x)∧(l.take k).Pairwise Bef) (fun k=>l.length - k) 0 (by rw [← cll_length]; kernel_rfl) ⟨by omega,by simp,by simp⟩ ?_
  rintro k ⟨g1,g2,g3⟩ J hJ
  refine see (p:=ifB (decide ((↑k:Int)<(↑(cll l).length:Int))) (onSome (cll l)[k]? fun row=>onCons (List.drop 0 row) fun u r=>onIntK IntKind.i64 u fun n=>onCons r fun u r=>onIntK IntKind.i64 u fun n_1=>onCons r fun u r=>onIntK IntKind.i64 u fun n_2=>K0G Tryz.prog glX 84 [V.agg [iv n,iv n_1,iv n_2],iv (0:Int),iv (15:Int)] fun v=>onBool v fun b=>ifB (!b) (R (bv false)) (ifB (decide ((↑k:Int) > (0:Int))) (onNat (IntKind.i64.wrap ((↑k:Int) - (1:Int))) fun m=>onSome (cll l)[m]? fun row=>onCons (List.drop 0 row) fun u r=>onIntK IntKind.i64 u fun n_3=>onCons r fun u r=>onIntK IntKind.i64 u fun n_4=>onCons r fun u r=>onIntK IntKind.i64 u fun n_5=>K0G Tryz.prog glX 89 [V.agg [iv n_3,iv n_4,iv n_5],V.agg [iv n,iv n_1,iv n_2]] fun v=>onIntK IntKind.i64 v fun n=>ifB (decide (n ≥ (0:Int))) (R (bv false)) (J (St.mk (mkT [(0,V.lst 3 (cll l)),(9,V.lst 3 (cll l)),(10,iv (↑(cll l).length:Int)),(11,iv (IntKind.i64.wrap ((↑k:Int)+(1:Int))))]) (Hp.mk [] 0 [])))) (J (St.mk (mkT [(0,V.lst 3 (cll l)),(9,V.lst 3 (cll l)),(10,iv (↑(cll l).length:Int)),(11,iv (IntKind.i64.wrap ((↑k:Int)+(1:Int))))]) (Hp.mk [] 0 []))))) (R (bv true))) (by kernel_rfl) ?_
  rw [cll_length]
  refine ifB_mk (fun hb=>?_) (fun hb=>?_)
  · have hlt:k<l.length:=by have:=of_decide_eq_true hb; omega
    obtain ⟨x,hx⟩:=getI hlt
    refine cel hx (near84 (c:=x) (onBool_bv (ifB_mk (fun d=>rf h (fun q=>?_)) (fun d=>?_))))
    · rw [dc_t (q.2.1 x (mem_at hx))] at d; cases d
    have hn:Nr 0 15 x:=dc_true (by cases hq:dc (Nr 0 15 x) with | true=>rfl | false=>rw [hq] at d; cases d)
    have nxt:(k=0 ∨ ∃ y,l[k - 1]? = some y∧Bef y x)→J (sh50 l (k+1)):=fun hp=>hJ (k+1) ⟨hlt,all_take hx g2 hn,pw_take Bef.tr hx g3 hp⟩ (by omega)
    refine ifB_mk (fun e=>?_) (fun e=>?_)
    · have hk:0<k:=by have:=of_decide_eq_true e; omega
      obtain ⟨y,hy⟩:=getI (l:=l) (k:=k - 1) (by omega)
      refine onNat_mk (m:=k - 1) (by rw [wr (by omega) (by omega)]; omega) (cel hy (cmp89 (a:=y) (b:=x) (onIntK_iv (ifB_mk (fun f=>rf h (fun q=>?_)) (fun f=>?_)))))
      · have:=cmpC_lt.2 (pw_at q.2.2 hx hy hk)
        have:=of_decide_eq_true f
        omega
      · rw [wr1i hlt (by omega)]
        exact hJ' (by simp [sh50,cll_length]) (nxt (.inr ⟨y,hy,cmpC_lt.1 (by have:=of_decide_eq_false f; omega)⟩))
    · rw [wr1i hlt (by omega)]
      exact hJ' (by simp [sh50,cll_length]) (nxt (.inl (by have:=of_decide_eq_false e; omega)))
  · have hk:l.length≤k:=by have:=of_decide_eq_false hb; omega
    rw [List.take_of_length_le hk] at g3
    exact rt h ⟨by omega,all_all hk g2,g3⟩
def KnR (k:Kn):Prop:=(0≤k.2.1∧k.2.1≤255)∧0≤k.2.2∧k.2.2≤255
def KnobP (cs:List Cl) (k:Kn):Prop:=k.2.1≤5∧(1≤k.2.2∧k.2.2≤6)∧k.1∈cs∧addC k.1 (stp k.2.1) ∉ cs
theorem isKnob90 {a:Kn} {cs:List Cl} {R:V→Prop} (hr:KnR a) (hc : ∀ c∈cs,Nr 0 15 c) (hl:(cs.length:Int)≤1000000) (h:R (bv (dc (KnobP cs a)))):K0G Tryz.prog glX 90 [.agg (knr a),.lst 3 (cll cs)] R:=by
  refine K0_of_WY0 hmX hcZ 3000 Tryz.func90 (see (p:=K0G Tryz.prog glX 81 [iv (IntKind.i64.wrap a.2.1)] fun v=>onBool v fun b=>ifB (!b) (R (bv false)) (K0G Tryz.prog glX 52 [iv (IntKind.i64.wrap a.2.2),iv (1:Int),iv (6:Int)] fun v=>onBool v fun b=>ifB (!b) (R (bv false)) (K0G Tryz.prog glX 127 [V.lst 3 (cll cs),V.agg [iv a.1.1,iv a.1.2.1,iv a.1.2.2]] fun v=>onBool v fun b=>ifB b (onNat a.2.1 fun m=>need (m<6) (onCons (List.drop (0+m * 3) [iv (1:Int),iv (0:Int),iv (0:Int),iv (-1:Int),iv (0:Int),iv (0:Int),iv (0:Int),iv (1:Int),iv (0:Int),iv (0:Int),iv (-1:Int),iv (0:Int),iv (0:Int),iv (0:Int),iv (1:Int),iv (0:Int),iv (0:Int),iv (-1:Int)]) fun u r=>onIntK IntKind.i64 u fun n=>onCons r fun u r=>onIntK IntKind.i64 u fun n_1=>onCons r fun u r=>onIntK IntKind.i64 u fun n_2=>K0G Tryz.prog glX 127 [V.lst 3 (cll cs),V.agg [iv (IntKind.i64.wrap (a.1.1+n)),iv (IntKind.i64.wrap (a.1.2.1+n_1)),iv (IntKind.i64.wrap (a.1.2.2+n_2))]] fun v=>onBool v fun b=>R (bv !b))) (R (bv false))))) (by kernel_rfl) ?_)
  obtain ⟨⟨r1,r2⟩,r3,r4⟩:=hr
  rw [wr (n:=a.2.1) (by omega) (by omega),wr (n:=a.2.2) (by omega) (by omega)]
  refine dir81 (onBool_bv (ifB_mk (fun d=>rf h (fun q=>?_)) (fun d=>?_)))
  · rw [dc_t ⟨r1,q.1⟩] at d; cases d
  have d5:0≤a.2.1∧a.2.1≤5:=dc_true (by cases hq:dc (0≤a.2.1∧a.2.1≤5) with | true=>rfl | false=>rw [hq] at d; cases d)
  refine within52 (onBool_bv (ifB_mk (fun d=>rf h (fun q=>?_)) (fun d=>?_)))
  · rw [dc_t q.2.1] at d; cases d
  have s6:1≤a.2.2∧a.2.2≤6:=dc_true (by cases hq:dc (1≤a.2.2∧a.2.2≤6) with | true=>rfl | false=>rw [hq] at d; cases d)
  refine contains127 (c:=a.1) hl (onBool_bv (ifB_mk (fun d=>?_) (fun d=>rf h (fun q=>dc_false d q.2.2.1))))
  have hm:=dc_true d
  obtain ⟨⟨c1,c2⟩,⟨c3,c4⟩,c5,c6⟩:=hc _ hm
  obtain ⟨⟨t1,t2⟩,⟨t3,t4⟩,t5,t6⟩:=stp_bd a.2.1
  have ea:a.2.1=((a.2.1.toNat:Nat):Int):=by omega
  refine onNat_mk (m:=a.2.1.toNat) ea (need_mk ⟨by omega,stp_at (by omega) ?_⟩)
  rw [← ea,wr (n:=a.1.1+_) (by omega) (by omega),wr (n:=a.1.2.1+_) (by omega) (by omega),wr (n:=a.1.2.2+_) (by omega) (by omega)]
  refine contains127 (c:=addC a.1 (stp a.2.1)) hl (onBool_bv ?_)
  refine rb h ⟨fun q=>⟨d5.2,s6,hm,?_⟩,fun q=>by rw [dc_f q.2.2.2]; rfl⟩
  intro hn
  rw [dc_t hn] at q
  cases q
def KnobsP (cs:List Cl) (l:List Kn):Prop:=l.length≤48∧(∀ k∈l,KnobP cs k)∧l.Pairwise BefK
theorem areKnobs51 {l:List Kn} {cs:List Cl} {R:V→Prop} (hr : ∀ k∈l,KnR k) (hc : ∀ c∈cs,Nr 0 15 c) (hcl:(cs.length:Int)≤1000000) (h:R (bv (dc (KnobsP cs l)))):K0G Tryz.prog glX 51 [.lst 5 (knl l),.lst 3 (cll cs)] R:=by
  refine K0_of_WY0 hmX hcC 3000 Tryz.func51 (see (p:=ifB (decide ((↑(knl l).length:Int) > (48:Int))) (R (bv false)) (La 0 [(0:Tmp),(1:Tmp),(10:Tmp),(11:Tmp),(12:Tmp)] (WY Tryz.prog cfC 2994 (Env.mk (Bs.mk 0 []) 0 none 36 51 0) (cdAt [1,1,0,1,0,0] (bodyOf Tryz.f51))) (Qblk 0 (Qthen (WY Tryz.prog cfC 2997 (Env.mk (Bs.mk 0 []) 0 none 36 51 0) (cdAt [1,1,1] (bodyOf Tryz.f51)) (QendX Tryz.prog Tryz.f51 fun v h=>R (frzW h v))) (QendX Tryz.prog Tryz.f51 fun v h=>R (frzW h v)))) (St.mk (mkT [(0,V.lst 5 (knl l)),(1,V.lst 3 (cll cs)),(10,V.lst 5 (knl l)),(11,iv (↑(knl l).length:Int)),(12,iv (0:Int))]) (Hp.mk [] 0 [])))) (by kernel_rfl) ?_)
  rw [knl_length]
  refine ifB_mk (fun c=>rf h (fun q=>by have:=q.1; have:=of_decide_eq_true c; omega)) (fun c=>?_)
  have h48:l.length≤48:=by have:=of_decide_eq_false c; omega
  refine La.of (σ:=Nat) (fun k=>sh51 l cs k) (fun k=>k≤l.length∧(∀ x∈l.take k,KnobP cs x)∧(l.take k).Pairwise BefK) (fun k=>l.length - k) 0 (by rw [← knl_length]; kernel_rfl) ⟨by omega,by simp,by simp⟩ ?_
  rintro k ⟨g1,g2,g3⟩ J hJ
  refine see (p:=ifB (decide ((↑k:Int)<(↑(knl l).length:Int))) (onSome (knl l)[k]? fun row=>onCons (List.drop 0 row) fun u r=>onIntK IntKind.i64 u fun n=>onCons r fun u r=>onIntK IntKind.i64 u fun n_1=>onCons r fun u r=>onIntK IntKind.i64 u fun n_2=>onCons r fun u r=>onIntK IntKind.u8 u fun n_3=>onCons r fun u r=>onIntK IntKind.u8 u fun n_4=>K0G Tryz.prog glX 90 [V.agg [iv n,iv n_1,iv n_2,V.raw (Value.int IntKind.u8 n_3),V.raw (Value.int IntKind.u8 n_4)],V.lst 3 (cll cs)] fun v=>onBool v fun b=>ifB (!b) (R (bv false)) (ifB (decide ((↑k:Int) > (0:Int))) (onNat (IntKind.i64.wrap ((↑k:Int) - (1:Int))) fun m=>onSome (knl l)[m]? fun row=>onCons (List.drop 0 row) fun u r=>onIntK IntKind.i64 u fun n_5=>onCons r fun u r=>onIntK IntKind.i64 u fun n_6=>onCons r fun u r=>onIntK IntKind.i64 u fun n_7=>onCons r fun u r=>onIntK IntKind.u8 u fun n_8=>onCons r fun u r=>onIntK IntKind.u8 u fun n_9=>K0G Tryz.prog glX 91 [V.agg [iv n_5,iv n_6,iv n_7,V.raw (Value.int IntKind.u8 n_8),V.raw (Value.int IntKind.u8 n_9)],V.agg [iv n,iv n_1,iv n_2,V.raw (Value.int IntKind.u8 n_3),V.raw (Value.int IntKind.u8 n_4)]] fun v=>onIntK IntKind.i64 v fun n=>ifB (decide (n ≥ (0:Int))) (R (bv false)) (J (St.mk (mkT [(0,V.lst 5 (knl l)),(1,V.lst 3 (cll cs)),(10,V.lst 5 (knl l)),(11,iv (↑(knl l).length:Int)),(12,iv (IntKind.i64.wrap ((↑k:Int)+(1:Int))))]) (Hp.mk [] 0 [])))) (J (St.mk (mkT [(0,V.lst 5 (knl l)),(1,V.lst 3 (cll cs)),(10,V.lst 5 (knl l)),(11,iv (↑(knl l).length:Int)),(12,iv (IntKind.i64.wrap ((↑k:Int)+(1:Int))))]) (Hp.mk [] 0 []))))) (R (bv true))) (by kernel_rfl) ?_
  rw [knl_length]
  refine ifB_mk (fun hb=>?_) (fun hb=>?_)
  · have hlt:k<l.length:=by have:=of_decide_eq_true hb; omega
    obtain ⟨x,hx⟩:=getI hlt
    refine kel hx (isKnob90 (a:=x) (hr x (mem_at hx)) hc hcl (onBool_bv (ifB_mk (fun d=>rf h (fun q=>?_)) (fun d=>?_))))
    · rw [dc_t (q.2.1 x (mem_at hx))] at d; cases d
    have hn:KnobP cs x:=dc_true (by cases hq:dc (KnobP cs x) with | true=>rfl | false=>rw [hq] at d; cases d)
    have nxt:(k=0 ∨ ∃ y,l[k - 1]? = some y∧BefK y x)→J (sh51 l cs (k+1)):=fun hp=>hJ (k+1) ⟨hlt,all_take hx g2 hn,pw_take BefK.tr hx g3 hp⟩ (by omega)
    refine ifB_mk (fun e=>?_) (fun e=>?_)
    · have hk:0<k:=by have:=of_decide_eq_true e; omega
      obtain ⟨y,hy⟩:=getI (l:=l) (k:=k - 1) (by omega)
      refine onNat_mk (m:=k - 1) (by rw [wr (by omega) (by omega)]; omega) (kel hy (cmp91 (a:=y) (b:=x) (onIntK_iv (ifB_mk (fun f=>rf h (fun q=>?_)) (fun f=>?_)))))
      · have:=cmpK_lt.2 (pw_at q.2.2 hx hy hk)
        have:=of_decide_eq_true f
        omega
      · rw [wr1i hlt (by omega)]
        exact hJ' (by simp [sh51,knl_length]) (nxt (.inr ⟨y,hy,cmpK_lt.1 (by have:=of_decide_eq_false f; omega)⟩))
    · rw [wr1i hlt (by omega)]
      exact hJ' (by simp [sh51,knl_length]) (nxt (.inl (by have:=of_decide_eq_false e; omega)))
  · have hk:l.length≤k:=by have:=of_decide_eq_false hb; omega
    rw [List.take_of_length_le hk] at g3
    exact rt h ⟨h48,all_all hk g2,g3⟩
def KindP (q:Kd):Prop:=CellsP q.1∧KnobsP q.1 q.2.1∧1≤q.2.2∧q.2.2≤100
def KdR (q:Kd):Prop:=(∀ k∈q.2.1,KnR k)∧q.1.length≤30∧q.2.1.length≤60
theorem kind14 {q:Kd} {R:V→Prop} (hq:KdR q) (h1:KindP q→R (iv 0)) (h2 : ¬ KindP q→R (iv 10)):K0G Tryz.prog glX 14 [.agg (kdr q)] R:=by
  refine K0_of_WY0 hmX hcC 3000 Tryz.func14 (see (p:=K0G Tryz.prog glX 50 [V.lst 3 (cll q.1)] fun v=>onBool v fun b=>ifB (!b) (R (iv (10:Int))) (K0G Tryz.prog glX 51 [V.lst 5 (knl q.2.1),V.lst 3 (cll q.1)] fun v=>onBool v fun b=>ifB (!b) (R (iv (10:Int))) (K0G Tryz.prog glX 52 [iv q.2.2,iv (1:Int),iv (100:Int)] fun v=>onBool v fun b=>ifB (!b) (R (iv (10:Int))) (R (iv (0:Int)))))) (by kernel_rfl) ?_)
  obtain ⟨k1,k2,k3⟩:=hq
  refine areCells50 (by omega) (onBool_bv (ifB_mk (fun d=>h2 (fun p=>by rw [dc_t p.1] at d; cases d)) (fun d=>?_)))
  have hc:CellsP q.1:=dc_true (by cases hq:dc (CellsP q.1) with | true=>rfl | false=>rw [hq] at d; cases d)
  refine areKnobs51 k1 hc.2.1 (by omega) (onBool_bv (ifB_mk (fun d=>h2 (fun p=>by rw [dc_t p.2.1] at d; cases d)) (fun d=>?_)))
  have hk:KnobsP q.1 q.2.1:=dc_true (by cases hq:dc (KnobsP q.1 q.2.1) with | true=>rfl | false=>rw [hq] at d; cases d)
  refine within52 (onBool_bv (ifB_mk (fun d=>h2 (fun p=>by rw [dc_t p.2.2] at d; cases d)) (fun d=>h1 ⟨hc,hk,?_⟩)))
  exact dc_true (by cases hq:dc (1≤q.2.2∧q.2.2≤100) with | true=>rfl | false=>rw [hq] at d; cases d)
def KindsP (l:List Kd):Prop:=l.length≤16 ∧ ∀ q∈l,KindP q
theorem kinds16 {l:List Kd} {R:V→Prop} (hl : ∀ q∈l,KdR q) (h1:KindsP l→R (iv 0)) (h2:16<l.length→R (iv 4)) (h3:l.length≤16 → ¬ KindsP l→R (iv 10)):K0G Tryz.prog glX 16 [.lst 3 (kdl l)] R:=by
  refine K0_of_WY0 hmX hcC 3000 Tryz.func16 (see (p:=ifB (decide ((↑(kdl l).length:Int) > (16:Int))) (R (iv (4:Int))) (La 0 [(9:Tmp),(10:Tmp),(11:Tmp)] (WY Tryz.prog cfC 2994 (Env.mk (Bs.mk 0 []) 0 none 21 16 0) (cdAt [1,1,0,1,0,0] (bodyOf Tryz.f16))) (Qblk 0 (Qthen (WY Tryz.prog cfC 2997 (Env.mk (Bs.mk 0 []) 0 none 21 16 0) (cdAt [1,1,1] (bodyOf Tryz.f16)) (QendX Tryz.prog Tryz.f16 fun v h=>R (frzW h v))) (QendX Tryz.prog Tryz.f16 fun v h=>R (frzW h v)))) (St.mk (mkT [(9,V.lst 3 (kdl l)),(10,iv (↑(kdl l).length:Int)),(11,iv (0:Int))]) (Hp.mk [] 0 [])))) (by kernel_rfl) ?_)
  rw [kdl_length]
  refine ifB_mk (fun c=>h2 (by have:=of_decide_eq_true c; omega)) (fun c=>?_)
  have h16:l.length≤16:=by have:=of_decide_eq_false c; omega
  refine La.of (σ:=Nat) (fun k=>sh16 l k) (fun k=>k≤l.length∧(∀ x∈l.take k,KindP x)) (fun k=>l.length - k) 0 (by rw [← kdl_length]; kernel_rfl) ⟨by omega,by simp⟩ ?_
  rintro k ⟨g1,g2⟩ J hJ
  refine see (p:=ifB (decide ((↑k:Int)<(↑(kdl l).length:Int))) (onSome (kdl l)[k]? fun row=>onCons (List.drop 0 row) fun u r=>onLst u fun s es=>onCons r fun u r=>onLst u fun s_1 es_1=>onCons r fun u r=>onIntK IntKind.i64 u fun n=>K0G Tryz.prog glX 14 [V.agg [V.lst s es,V.lst s_1 es_1,iv n]] fun v=>onIntK IntKind.i64 v fun n=>ifB (n != (0:Int)) (R (iv n)) (J (St.mk (mkT [(9,V.lst 3 (kdl l)),(10,iv (↑(kdl l).length:Int)),(11,iv (IntKind.i64.wrap ((↑k:Int)+(1:Int))))]) (Hp.mk [] 0 [])))) (R (iv (0:Int)))) (by kernel_rfl) ?_
  rw [kdl_length]
  refine ifB_mk (fun hb=>?_) (fun hb=>?_)
  · have hlt:k<l.length:=by have:=of_decide_eq_true hb; omega
    obtain ⟨x,hx⟩:=getI hlt
    refine del hx (kind14 (q:=x) (hl x (mem_at hx)) (fun hp=>onIntK_iv (ifB_f rfl ?_)) (fun hn=>onIntK_iv (ifB_t rfl (h3 h16 (fun q=>hn (q.2 x (mem_at hx)))))))
    rw [wr1i hlt (by omega)]
    exact hJ' (by simp [sh16,kdl_length]) (hJ (k+1) ⟨hlt,all_take hx g2 hp⟩ (by omega))
  · have hk:l.length≤k:=by have:=of_decide_eq_false hb; omega
    exact h1 ⟨h16,all_all hk g2⟩
end Go.Proofs.YtbionhgjgcpogaaGreatDoor
namespace Go.Proofs.YtbionhgjgcpogaaGreatDoor
open Go Go.Proofs.YtbionhgjgcpogaaGreatDoor.Clean
set_option linter.unusedVariables false
set_option maxRecDepth 100000
noncomputable def cfR:Cfg:=cfgM Tryz.prog glX moZ tyZ (inN [77,78]) kpZ
end Go.Proofs.YtbionhgjgcpogaaGreatDoor
namespace Go.Proofs.YtbionhgjgcpogaaGreatDoor
open Go Go.Proofs.YtbionhgjgcpogaaGreatDoor.Clean
set_option linter.unusedVariables false
set_option linter.unusedSimpArgs false
set_option maxRecDepth 10000
theorem hcR:cfR.ok Tryz.prog:=cfgM_ok
theorem nb {p:Prop} (h:(!dc p)=false):p:=by cases hq:dc p with
  | true=>exact dc_true hq
  | false=>rw [hq] at h; cases h
theorem nbt {p:Prop} (h:(!dc p)=true) : ¬ p:=fun hp=>by rw [dc_t hp] at h; cases h
def Bd (b:Int) (c:Cl):Prop:=Nr (-b) b c
theorem Nr.mono {a b c d:Int} {x:Cl} (h:Nr a b x) (h1:c≤a) (h2:b≤d):Nr c d x:=by
  obtain ⟨⟨c1,c2⟩,⟨c3,c4⟩,c5,c6⟩:=h
  exact ⟨⟨by omega,by omega⟩,⟨by omega,by omega⟩,by omega,by omega⟩
theorem onC {c:Cl} {k:Int→Int→Int→Prop} (h:k c.1 c.2.1 c.2.2):onAgg (V.agg (clr c)) fun cs=>onCons cs fun u r=>onIntK IntKind.i64 u fun n=>onCons r fun u r=>onIntK IntKind.i64 u fun n_1=>onCons r fun u r=>onIntK IntKind.i64 u fun n_2=>onNil r (k n n_1 n_2):=h
def BrickP (n:Nat) (b:Bk):Prop:=(0≤b.1∧b.1<(n:Int))∧Bd 1000 b.2.1∧b.2.2.1<24∧b.2.2.2≤15
def BkR (b:Bk):Prop:=(0≤b.2.2.1∧b.2.2.1≤255)∧0≤b.2.2.2∧b.2.2.2≤255
theorem brick98 {l:List Kd} {b:Bk} {R:V→Prop} (hb:BkR b) (hl:(l.length:Int)≤1000000) (h:R (bv (dc (BrickP l.length b)))):K0G Tryz.prog glX 98 [.lst 3 (kdl l),.agg (bkr b)] R:=by
  refine K0_of_WY0 hmX hcR 3000 Tryz.func98 (see (p:=K0G Tryz.prog glX 52 [iv b.1,iv (0:Int),iv (IntKind.i64.wrap ((↑(kdl l).length:Int) - (1:Int)))] fun v=>onBool v fun b_1=>ifB b_1 (K0G Tryz.prog glX 84 [V.agg [iv b.2.1.1,iv b.2.1.2.1,iv b.2.1.2.2],iv (-1000:Int),iv (1000:Int)] fun v=>onBool v fun b_2=>ifB b_2 (K0G Tryz.prog glX 52 [iv (IntKind.i64.wrap b.2.2.1),iv (0:Int),iv (23:Int)] fun v=>onBool v fun b_3=>ifB b_3 (R (bv (decide (b.2.2.2≤(15:Int))))) (R (bv false))) (R (bv false))) (R (bv false))) (by kernel_rfl) ?_)
  obtain ⟨⟨b1,b2⟩,b3,b4⟩:=hb
  rw [kdl_length,wr (n:=(l.length:Int) - 1) (by omega) (by omega),wr (n:=b.2.2.1) (by omega) (by omega)]
  refine within52 (onBool_bv (ifB_mk (fun c1=>near84 (c:=b.2.1) (onBool_bv (ifB_mk (fun c2=>within52 (onBool_bv (ifB_mk (fun c3=>rb h ?_) (fun c3=>rf h (fun q=>dc_false c3 ⟨b1,by have:=q.2.2.1; omega⟩))))) (fun c2=>rf h (fun q=>dc_false c2 q.2.1))))) (fun c1=>rf h (fun q=>dc_false c1 ⟨q.1.1,by have:=q.1.2; omega⟩))))
  have c1:=dc_true c1
  have c3:=dc_true c3
  exact ⟨fun q=>⟨⟨c1.1,by omega⟩,dc_true c2,by omega,of_decide_eq_true q⟩,fun q=>decide_eq_true q.2.2.2⟩
def askE (l:List Kd) (b:Bk) (e:Int):Prop:=(16<l.length∧e=4)∨(l.length≤16 ∧ ¬ KindsP l∧e=10)∨(KindsP l ∧ ¬ BrickP l.length b∧e=11)∨(KindsP l∧BrickP l.length b∧e=0)
theorem askE.uniq {l:List Kd} {b:Bk} {e f:Int} (h:askE l b e) (g:askE l b f):e=f:=by
  rcases h with ⟨h1,h2⟩ | ⟨h1,h2,h3⟩ | ⟨h1,h2,h3⟩ | ⟨h1,h2,h3⟩ <;> rcases g with ⟨g1,g2⟩ | ⟨g1,g2,g3⟩ | ⟨g1,g2,g3⟩ | ⟨g1,g2,g3⟩ <;> first | omega | exact (h2 g1).elim | exact (g2 h1).elim | exact (h2 g2).elim | exact (g2 h2).elim | (have:=h1.1; omega) | (have:=g1.1; omega)
theorem askE.ok {l:List Kd} {b:Bk} (h:askE l b 0):KindsP l∧BrickP l.length b:=by
  rcases h with ⟨h1,h2⟩ | ⟨h1,h2,h3⟩ | ⟨h1,h2,h3⟩ | ⟨h1,h2,h3⟩
  · omega
  · omega
  · omega
  · exact ⟨h1,h2⟩
def GreatP (l:List Kd) (m:List Bk):Prop:=20<l.length∨45<m.length ∨ ∃ q∈l,30<q.1.length∨60<q.2.1.length
theorem del0 {l:List Kd} {i:Nat} {q:Kd} {k:Nat→List (List V)→Prop} (h:l[i]? = some q) (hk:k 3 (cll q.1)):onSome (kdl l)[i]? fun row=>onSome row[0]? fun v=>onLst v fun s es=>k s es:=onSome_mk (by simp [kdl,h]:(kdl l)[i]? = some (kdr q)) hk
theorem del1 {l:List Kd} {i:Nat} {q:Kd} {k:Nat→List (List V)→Prop} (h:l[i]? = some q) (hk:k 5 (knl q.2.1)):onSome (kdl l)[i]? fun row=>onSome row[1]? fun v=>onLst v fun s es=>k s es:=onSome_mk (by simp [kdl,h]:(kdl l)[i]? = some (kdr q)) hk
theorem great12 {l:List Kd} {m:List Bk} {R:V→Prop} (h:R (bv (dc (GreatP l m)))):K0G Tryz.prog glX 12 [.lst 3 (kdl l),.agg [.lst 6 (bkl m)]] R:=by
  refine K0_of_WY0 hmX hcR 3000 Tryz.func12 (see (p:=ifB (decide ((↑(kdl l).length:Int) > (20:Int))) (R (bv true)) (ifB (decide ((↑(bkl m).length:Int) > (45:Int))) (R (bv true)) (La 0 [(0:Tmp),(5:Tmp)] (WY Tryz.prog cfR 2994 (Env.mk (Bs.mk 0 []) 0 none 37 12 0) (cdAt [1,1,0,1,0,0] (bodyOf Tryz.f12))) (Qblk 0 (Qthen (WY Tryz.prog cfR 2997 (Env.mk (Bs.mk 0 []) 0 none 37 12 0) (cdAt [1,1,1] (bodyOf Tryz.f12)) (QendX Tryz.prog Tryz.f12 fun v h=>R (frzW h v))) (QendX Tryz.prog Tryz.f12 fun v h=>R (frzW h v)))) (St.mk (mkT [(0,V.lst 3 (kdl l)),(5,iv (0:Int))]) (Hp.mk [] 0 []))))) (by kernel_rfl) ?_)
  rw [kdl_length,bkl_length]
  refine ifB_mk (fun c=>rt h (.inl (by have:=of_decide_eq_true c; omega))) (fun c1=>ifB_mk (fun c=>rt h (.inr (.inl (by have:=of_decide_eq_true c; omega)))) (fun c2=>?_))
  have c1:l.length≤20:=by have:=of_decide_eq_false c1; omega
  have c2:m.length≤45:=by have:=of_decide_eq_false c2; omega
  refine La.of (σ:=Nat) (fun k=>sh12 l k) (fun k=>k≤l.length∧(∀ x∈l.take k, ¬ (30<x.1.length∨60<x.2.1.length))) (fun k=>l.length - k) 0 (by kernel_rfl) ⟨by omega,by simp⟩ ?_
  rintro k ⟨g1,g2⟩ J hJ
  refine see (p:=ifB (decide ((↑k:Int)<(↑(kdl l).length:Int))) (onSome (kdl l)[k]? fun row=>onSome row[0]? fun v=>onLst v fun s es=>ifB (decide ((↑es.length:Int) > (30:Int))) (R (bv true)) (onSome (kdl l)[k]? fun row=>onSome row[1]? fun v=>onLst v fun s es=>ifB (decide ((↑es.length:Int) > (60:Int))) (R (bv true)) (J (St.mk (mkT [(0,V.lst 3 (kdl l)),(5,iv (IntKind.i64.wrap ((↑k:Int)+(1:Int))))]) (Hp.mk [] 0 []))))) (R (bv false))) (by kernel_rfl) ?_
  rw [kdl_length]
  refine ifB_mk (fun hb=>?_) (fun hb=>?_)
  · have hlt:k<l.length:=by have:=of_decide_eq_true hb; omega
    obtain ⟨x,hx⟩:=getI hlt
    refine del0 hx ?_
    rw [cll_length]
    refine ifB_mk (fun c=>rt h (.inr (.inr ⟨x,mem_at hx,.inl (by have:=of_decide_eq_true c; omega)⟩))) (fun c=>del1 hx ?_)
    rw [knl_length]
    refine ifB_mk (fun d=>rt h (.inr (.inr ⟨x,mem_at hx,.inr (by have:=of_decide_eq_true d; omega)⟩))) (fun d=>?_)
    rw [wr1i hlt (by omega)]
    exact hJ (k+1) ⟨hlt,all_take hx g2 (by have:=of_decide_eq_false c; have:=of_decide_eq_false d; omega)⟩ (by omega)
  · have hk:l.length≤k:=by have:=of_decide_eq_false hb; omega
    refine rf h ?_
    rintro (q | q | ⟨x,hx,q⟩)
    · omega
    · omega
    · exact all_all hk g2 x hx q
end Go.Proofs.YtbionhgjgcpogaaGreatDoor
namespace Go.Proofs.YtbionhgjgcpogaaGreatDoor
open Go Go.Proofs.YtbionhgjgcpogaaGreatDoor.Clean
set_option linter.unusedVariables false
set_option maxRecDepth 100000
def fZ:V:=V.fn (Fn.func 124) [] []
def fX:V:=V.fn (Fn.func 123) [] []
def fN:V:=V.raw Value.nilFunc
def chA (k:Int):V:=V.agg [fZ,iv k,fN,iv 0,fN,iv 0]
def chB (k s:Int):V:=V.agg [fZ,iv k,fX,iv s,fN,iv 0]
def chC (k j:Int):V:=V.agg [fZ,iv k,fX,iv 1,fZ,iv j]
noncomputable def cfT:Cfg:=cfgM Tryz.prog glX moZ tyZ (inN [123,124]) (fun _ _=>none)
noncomputable def cfU:Cfg:=cfgM Tryz.prog glX moZ tyZ (inN [123,124,85]) (fun _ _=>none)
end Go.Proofs.YtbionhgjgcpogaaGreatDoor
namespace Go.Proofs.YtbionhgjgcpogaaGreatDoor
open Go Go.Proofs.YtbionhgjgcpogaaGreatDoor.Clean
set_option linter.unusedVariables false
set_option linter.unusedSimpArgs false
set_option maxRecDepth 10000
theorem hcT:cfT.ok Tryz.prog:=cfgM_ok
theorem hcU:cfU.ok Tryz.prog:=cfgM_ok
def qz (c:Cl):Cl:=(-c.2.1,c.1,c.2.2)
def qx (c:Cl):Cl:=(c.1, -c.2.2,c.2.1)
def itr (f:Cl→Cl):Nat→Cl→Cl
  | 0,c=>c
  | n+1,c=>itr f n (f c)
def tn (n:Nat) (c:Cl):Cl:=if n / 4<4 then itr qx (n / 4) (itr qz (n % 4) c) else itr qz (if n / 4=4 then 1 else 3) (qx (itr qz (n % 4) c))
theorem wn {t:Int} (h : -3000≤t) (h' : t≤3000):IntKind.i64.wrap (0 - t) = -t:=by rw [wr (by omega) (by omega)]; omega
theorem wn6 {t:Int} (h : -3000≤t) (h' : t≤3000):IntKind.i64.wrap (0 - t) = -t∧IntKind.i64.wrap (0 - -t) = - -t∧IntKind.i64.wrap (0 - - -t) = - - -t∧IntKind.i64.wrap (0 - - - -t) = - - - -t∧IntKind.i64.wrap (0 - - - - -t) = - - - - -t :=
  ⟨wn h h', wn (by omega) (by omega),wn (by omega) (by omega),wn (by omega) (by omega),wn (by omega) (by omega)⟩
theorem cell85_0 {c:Cl} {R:V→Prop} (hb:Bd 3000 c) (h:R (.agg (clr (tn 0 c)))):K0G Tryz.prog glX 85 [(chA 0),.agg (clr c)] R:=by
  refine K0_by hmX hcT 3000 Tryz.func85 (p:=R (V.agg [iv c.1,iv c.2.1,iv c.2.2])) (by kernel_rfl) ?_
  unfold Bd Nr at hb
  obtain ⟨x1,x2,x3,x4,x5⟩:=wn6 (t:=c.1) (by omega) (by omega)
  obtain ⟨y1,y2,y3,y4,y5⟩:=wn6 (t:=c.2.1) (by omega) (by omega)
  obtain ⟨z1,z2,z3,z4,z5⟩:=wn6 (t:=c.2.2) (by omega) (by omega)
  try simp only [x1,x2,x3,x4,x5,y1,y2,y3,y4,y5,z1,z2,z3,z4,z5]
  exact h
theorem chain82_0 {R:V→Prop} (h:R (chA 0)):K0G Tryz.prog glX 82 [iv 0] R:=K0_by hmX hcT 3000 Tryz.func82 (p:=R (chA 0)) (by kernel_rfl) h
theorem cell85_1 {c:Cl} {R:V→Prop} (hb:Bd 3000 c) (h:R (.agg (clr (tn 1 c)))):K0G Tryz.prog glX 85 [(chA 1),.agg (clr c)] R:=by
  refine K0_by hmX hcT 3000 Tryz.func85 (p:=R (V.agg [iv (IntKind.i64.wrap (0 - c.2.1)),iv c.1,iv c.2.2])) (by kernel_rfl) ?_
  unfold Bd Nr at hb
  obtain ⟨x1,x2,x3,x4,x5⟩:=wn6 (t:=c.1) (by omega) (by omega)
  obtain ⟨y1,y2,y3,y4,y5⟩:=wn6 (t:=c.2.1) (by omega) (by omega)
  obtain ⟨z1,z2,z3,z4,z5⟩:=wn6 (t:=c.2.2) (by omega) (by omega)
  try simp only [x1,x2,x3,x4,x5,y1,y2,y3,y4,y5,z1,z2,z3,z4,z5]
  exact h
theorem chain82_1 {R:V→Prop} (h:R (chA 1)):K0G Tryz.prog glX 82 [iv 1] R:=K0_by hmX hcT 3000 Tryz.func82 (p:=R (chA 1)) (by kernel_rfl) h
theorem cell85_2 {c:Cl} {R:V→Prop} (hb:Bd 3000 c) (h:R (.agg (clr (tn 2 c)))):K0G Tryz.prog glX 85 [(chA 2),.agg (clr c)] R:=by
  refine K0_by hmX hcT 3000 Tryz.func85 (p:=R (V.agg [iv (IntKind.i64.wrap (0 - c.1)),iv (IntKind.i64.wrap (0 - c.2.1)),iv c.2.2])) (by kernel_rfl) ?_
  unfold Bd Nr at hb
  obtain ⟨x1,x2,x3,x4,x5⟩:=wn6 (t:=c.1) (by omega) (by omega)
  obtain ⟨y1,y2,y3,y4,y5⟩:=wn6 (t:=c.2.1) (by omega) (by omega)
  obtain ⟨z1,z2,z3,z4,z5⟩:=wn6 (t:=c.2.2) (by omega) (by omega)
  try simp only [x1,x2,x3,x4,x5,y1,y2,y3,y4,y5,z1,z2,z3,z4,z5]
  exact h
theorem chain82_2 {R:V→Prop} (h:R (chA 2)):K0G Tryz.prog glX 82 [iv 2] R:=K0_by hmX hcT 3000 Tryz.func82 (p:=R (chA 2)) (by kernel_rfl) h
theorem cell85_3 {c:Cl} {R:V→Prop} (hb:Bd 3000 c) (h:R (.agg (clr (tn 3 c)))):K0G Tryz.prog glX 85 [(chA 3),.agg (clr c)] R:=by
  refine K0_by hmX hcT 3000 Tryz.func85 (p:=R (V.agg [iv (IntKind.i64.wrap (0 - (IntKind.i64.wrap (0 - c.2.1)))),iv (IntKind.i64.wrap (0 - c.1)),iv c.2.2])) (by kernel_rfl) ?_
  unfold Bd Nr at hb
  obtain ⟨x1,x2,x3,x4,x5⟩:=wn6 (t:=c.1) (by omega) (by omega)
  obtain ⟨y1,y2,y3,y4,y5⟩:=wn6 (t:=c.2.1) (by omega) (by omega)
  obtain ⟨z1,z2,z3,z4,z5⟩:=wn6 (t:=c.2.2) (by omega) (by omega)
  try simp only [x1,x2,x3,x4,x5,y1,y2,y3,y4,y5,z1,z2,z3,z4,z5]
  exact h
theorem chain82_3 {R:V→Prop} (h:R (chA 3)):K0G Tryz.prog glX 82 [iv 3] R:=K0_by hmX hcT 3000 Tryz.func82 (p:=R (chA 3)) (by kernel_rfl) h
theorem cell85_4 {c:Cl} {R:V→Prop} (hb:Bd 3000 c) (h:R (.agg (clr (tn 4 c)))):K0G Tryz.prog glX 85 [(chB 0 1),.agg (clr c)] R:=by
  refine K0_by hmX hcT 3000 Tryz.func85 (p:=R (V.agg [iv c.1,iv (IntKind.i64.wrap (0 - c.2.2)),iv c.2.1])) (by kernel_rfl) ?_
  unfold Bd Nr at hb
  obtain ⟨x1,x2,x3,x4,x5⟩:=wn6 (t:=c.1) (by omega) (by omega)
  obtain ⟨y1,y2,y3,y4,y5⟩:=wn6 (t:=c.2.1) (by omega) (by omega)
  obtain ⟨z1,z2,z3,z4,z5⟩:=wn6 (t:=c.2.2) (by omega) (by omega)
  try simp only [x1,x2,x3,x4,x5,y1,y2,y3,y4,y5,z1,z2,z3,z4,z5]
  exact h
theorem chain82_4 {R:V→Prop} (h:R (chB 0 1)):K0G Tryz.prog glX 82 [iv 4] R:=K0_by hmX hcT 3000 Tryz.func82 (p:=R (chB 0 1)) (by kernel_rfl) h
theorem cell85_5 {c:Cl} {R:V→Prop} (hb:Bd 3000 c) (h:R (.agg (clr (tn 5 c)))):K0G Tryz.prog glX 85 [(chB 1 1),.agg (clr c)] R:=by
  refine K0_by hmX hcT 3000 Tryz.func85 (p:=R (V.agg [iv (IntKind.i64.wrap (0 - c.2.1)),iv (IntKind.i64.wrap (0 - c.2.2)),iv c.1])) (by kernel_rfl) ?_
  unfold Bd Nr at hb
  obtain ⟨x1,x2,x3,x4,x5⟩:=wn6 (t:=c.1) (by omega) (by omega)
  obtain ⟨y1,y2,y3,y4,y5⟩:=wn6 (t:=c.2.1) (by omega) (by omega)
  obtain ⟨z1,z2,z3,z4,z5⟩:=wn6 (t:=c.2.2) (by omega) (by omega)
  try simp only [x1,x2,x3,x4,x5,y1,y2,y3,y4,y5,z1,z2,z3,z4,z5]
  exact h
theorem chain82_5 {R:V→Prop} (h:R (chB 1 1)):K0G Tryz.prog glX 82 [iv 5] R:=K0_by hmX hcT 3000 Tryz.func82 (p:=R (chB 1 1)) (by kernel_rfl) h
theorem cell85_6 {c:Cl} {R:V→Prop} (hb:Bd 3000 c) (h:R (.agg (clr (tn 6 c)))):K0G Tryz.prog glX 85 [(chB 2 1),.agg (clr c)] R:=by
  refine K0_by hmX hcT 3000 Tryz.func85 (p:=R (V.agg [iv (IntKind.i64.wrap (0 - c.1)),iv (IntKind.i64.wrap (0 - c.2.2)),iv (IntKind.i64.wrap (0 - c.2.1))])) (by kernel_rfl) ?_
  unfold Bd Nr at hb
  obtain ⟨x1,x2,x3,x4,x5⟩:=wn6 (t:=c.1) (by omega) (by omega)
  obtain ⟨y1,y2,y3,y4,y5⟩:=wn6 (t:=c.2.1) (by omega) (by omega)
  obtain ⟨z1,z2,z3,z4,z5⟩:=wn6 (t:=c.2.2) (by omega) (by omega)
  try simp only [x1,x2,x3,x4,x5,y1,y2,y3,y4,y5,z1,z2,z3,z4,z5]
  exact h
theorem chain82_6 {R:V→Prop} (h:R (chB 2 1)):K0G Tryz.prog glX 82 [iv 6] R:=K0_by hmX hcT 3000 Tryz.func82 (p:=R (chB 2 1)) (by kernel_rfl) h
theorem cell85_7 {c:Cl} {R:V→Prop} (hb:Bd 3000 c) (h:R (.agg (clr (tn 7 c)))):K0G Tryz.prog glX 85 [(chB 3 1),.agg (clr c)] R:=by
  refine K0_by hmX hcT 3000 Tryz.func85 (p:=R (V.agg [iv (IntKind.i64.wrap (0 - (IntKind.i64.wrap (0 - c.2.1)))),iv (IntKind.i64.wrap (0 - c.2.2)),iv (IntKind.i64.wrap (0 - c.1))])) (by kernel_rfl) ?_
  unfold Bd Nr at hb
  obtain ⟨x1,x2,x3,x4,x5⟩:=wn6 (t:=c.1) (by omega) (by omega)
  obtain ⟨y1,y2,y3,y4,y5⟩:=wn6 (t:=c.2.1) (by omega) (by omega)
  obtain ⟨z1,z2,z3,z4,z5⟩:=wn6 (t:=c.2.2) (by omega) (by omega)
  try simp only [x1,x2,x3,x4,x5,y1,y2,y3,y4,y5,z1,z2,z3,z4,z5]
  exact h
theorem chain82_7 {R:V→Prop} (h:R (chB 3 1)):K0G Tryz.prog glX 82 [iv 7] R:=K0_by hmX hcT 3000 Tryz.func82 (p:=R (chB 3 1)) (by kernel_rfl) h
theorem cell85_8 {c:Cl} {R:V→Prop} (hb:Bd 3000 c) (h:R (.agg (clr (tn 8 c)))):K0G Tryz.prog glX 85 [(chB 0 2),.agg (clr c)] R:=by
  refine K0_by hmX hcT 3000 Tryz.func85 (p:=R (V.agg [iv c.1,iv (IntKind.i64.wrap (0 - c.2.1)),iv (IntKind.i64.wrap (0 - c.2.2))])) (by kernel_rfl) ?_
  unfold Bd Nr at hb
  obtain ⟨x1,x2,x3,x4,x5⟩:=wn6 (t:=c.1) (by omega) (by omega)
  obtain ⟨y1,y2,y3,y4,y5⟩:=wn6 (t:=c.2.1) (by omega) (by omega)
  obtain ⟨z1,z2,z3,z4,z5⟩:=wn6 (t:=c.2.2) (by omega) (by omega)
  try simp only [x1,x2,x3,x4,x5,y1,y2,y3,y4,y5,z1,z2,z3,z4,z5]
  exact h
theorem chain82_8 {R:V→Prop} (h:R (chB 0 2)):K0G Tryz.prog glX 82 [iv 8] R:=K0_by hmX hcT 3000 Tryz.func82 (p:=R (chB 0 2)) (by kernel_rfl) h
theorem cell85_9 {c:Cl} {R:V→Prop} (hb:Bd 3000 c) (h:R (.agg (clr (tn 9 c)))):K0G Tryz.prog glX 85 [(chB 1 2),.agg (clr c)] R:=by
  refine K0_by hmX hcT 3000 Tryz.func85 (p:=R (V.agg [iv (IntKind.i64.wrap (0 - c.2.1)),iv (IntKind.i64.wrap (0 - c.1)),iv (IntKind.i64.wrap (0 - c.2.2))])) (by kernel_rfl) ?_
  unfold Bd Nr at hb
  obtain ⟨x1,x2,x3,x4,x5⟩:=wn6 (t:=c.1) (by omega) (by omega)
  obtain ⟨y1,y2,y3,y4,y5⟩:=wn6 (t:=c.2.1) (by omega) (by omega)
  obtain ⟨z1,z2,z3,z4,z5⟩:=wn6 (t:=c.2.2) (by omega) (by omega)
  try simp only [x1,x2,x3,x4,x5,y1,y2,y3,y4,y5,z1,z2,z3,z4,z5]
  exact h
theorem chain82_9 {R:V→Prop} (h:R (chB 1 2)):K0G Tryz.prog glX 82 [iv 9] R:=K0_by hmX hcT 3000 Tryz.func82 (p:=R (chB 1 2)) (by kernel_rfl) h
theorem cell85_10 {c:Cl} {R:V→Prop} (hb:Bd 3000 c) (h:R (.agg (clr (tn 10 c)))):K0G Tryz.prog glX 85 [(chB 2 2),.agg (clr c)] R:=by
  refine K0_by hmX hcT 3000 Tryz.func85 (p:=R (V.agg [iv (IntKind.i64.wrap (0 - c.1)),iv (IntKind.i64.wrap (0 - (IntKind.i64.wrap (0 - c.2.1)))),iv (IntKind.i64.wrap (0 - c.2.2))])) (by kernel_rfl) ?_
  unfold Bd Nr at hb
  obtain ⟨x1,x2,x3,x4,x5⟩:=wn6 (t:=c.1) (by omega) (by omega)
  obtain ⟨y1,y2,y3,y4,y5⟩:=wn6 (t:=c.2.1) (by omega) (by omega)
  obtain ⟨z1,z2,z3,z4,z5⟩:=wn6 (t:=c.2.2) (by omega) (by omega)
  try simp only [x1,x2,x3,x4,x5,y1,y2,y3,y4,y5,z1,z2,z3,z4,z5]
  exact h
theorem chain82_10 {R:V→Prop} (h:R (chB 2 2)):K0G Tryz.prog glX 82 [iv 10] R:=K0_by hmX hcT 3000 Tryz.func82 (p:=R (chB 2 2)) (by kernel_rfl) h
theorem cell85_11 {c:Cl} {R:V→Prop} (hb:Bd 3000 c) (h:R (.agg (clr (tn 11 c)))):K0G Tryz.prog glX 85 [(chB 3 2),.agg (clr c)] R:=by
  refine K0_by hmX hcT 3000 Tryz.func85 (p:=R (V.agg [iv (IntKind.i64.wrap (0 - (IntKind.i64.wrap (0 - c.2.1)))),iv (IntKind.i64.wrap (0 - (IntKind.i64.wrap (0 - c.1)))),iv (IntKind.i64.wrap (0 - c.2.2))])) (by kernel_rfl) ?_
  unfold Bd Nr at hb
  obtain ⟨x1,x2,x3,x4,x5⟩:=wn6 (t:=c.1) (by omega) (by omega)
  obtain ⟨y1,y2,y3,y4,y5⟩:=wn6 (t:=c.2.1) (by omega) (by omega)
  obtain ⟨z1,z2,z3,z4,z5⟩:=wn6 (t:=c.2.2) (by omega) (by omega)
  try simp only [x1,x2,x3,x4,x5,y1,y2,y3,y4,y5,z1,z2,z3,z4,z5]
  exact h
theorem chain82_11 {R:V→Prop} (h:R (chB 3 2)):K0G Tryz.prog glX 82 [iv 11] R:=K0_by hmX hcT 3000 Tryz.func82 (p:=R (chB 3 2)) (by kernel_rfl) h
theorem cell85_12 {c:Cl} {R:V→Prop} (hb:Bd 3000 c) (h:R (.agg (clr (tn 12 c)))):K0G Tryz.prog glX 85 [(chB 0 3),.agg (clr c)] R:=by
  refine K0_by hmX hcT 3000 Tryz.func85 (p:=R (V.agg [iv c.1,iv (IntKind.i64.wrap (0 - (IntKind.i64.wrap (0 - c.2.2)))),iv (IntKind.i64.wrap (0 - c.2.1))])) (by kernel_rfl) ?_
  unfold Bd Nr at hb
  obtain ⟨x1,x2,x3,x4,x5⟩:=wn6 (t:=c.1) (by omega) (by omega)
  obtain ⟨y1,y2,y3,y4,y5⟩:=wn6 (t:=c.2.1) (by omega) (by omega)
  obtain ⟨z1,z2,z3,z4,z5⟩:=wn6 (t:=c.2.2) (by omega) (by omega)
  try simp only [x1,x2,x3,x4,x5,y1,y2,y3,y4,y5,z1,z2,z3,z4,z5]
  exact h
theorem chain82_12 {R:V→Prop} (h:R (chB 0 3)):K0G Tryz.prog glX 82 [iv 12] R:=K0_by hmX hcT 3000 Tryz.func82 (p:=R (chB 0 3)) (by kernel_rfl) h
theorem cell85_13 {c:Cl} {R:V→Prop} (hb:Bd 3000 c) (h:R (.agg (clr (tn 13 c)))):K0G Tryz.prog glX 85 [(chB 1 3),.agg (clr c)] R:=by
  refine K0_by hmX hcT 3000 Tryz.func85 (p:=R (V.agg [iv (IntKind.i64.wrap (0 - c.2.1)),iv (IntKind.i64.wrap (0 - (IntKind.i64.wrap (0 - c.2.2)))),iv (IntKind.i64.wrap (0 - c.1))])) (by kernel_rfl) ?_
  unfold Bd Nr at hb
  obtain ⟨x1,x2,x3,x4,x5⟩:=wn6 (t:=c.1) (by omega) (by omega)
  obtain ⟨y1,y2,y3,y4,y5⟩:=wn6 (t:=c.2.1) (by omega) (by omega)
  obtain ⟨z1,z2,z3,z4,z5⟩:=wn6 (t:=c.2.2) (by omega) (by omega)
  try simp only [x1,x2,x3,x4,x5,y1,y2,y3,y4,y5,z1,z2,z3,z4,z5]
  exact h
theorem chain82_13 {R:V→Prop} (h:R (chB 1 3)):K0G Tryz.prog glX 82 [iv 13] R:=K0_by hmX hcT 3000 Tryz.func82 (p:=R (chB 1 3)) (by kernel_rfl) h
theorem cell85_14 {c:Cl} {R:V→Prop} (hb:Bd 3000 c) (h:R (.agg (clr (tn 14 c)))):K0G Tryz.prog glX 85 [(chB 2 3),.agg (clr c)] R:=by
  refine K0_by hmX hcT 3000 Tryz.func85 (p:=R (V.agg [iv (IntKind.i64.wrap (0 - c.1)),iv (IntKind.i64.wrap (0 - (IntKind.i64.wrap (0 - c.2.2)))),iv (IntKind.i64.wrap (0 - (IntKind.i64.wrap (0 - c.2.1))))])) (by kernel_rfl) ?_
  unfold Bd Nr at hb
  obtain ⟨x1,x2,x3,x4,x5⟩:=wn6 (t:=c.1) (by omega) (by omega)
  obtain ⟨y1,y2,y3,y4,y5⟩:=wn6 (t:=c.2.1) (by omega) (by omega)
  obtain ⟨z1,z2,z3,z4,z5⟩:=wn6 (t:=c.2.2) (by omega) (by omega)
  try simp only [x1,x2,x3,x4,x5,y1,y2,y3,y4,y5,z1,z2,z3,z4,z5]
  exact h
theorem chain82_14 {R:V→Prop} (h:R (chB 2 3)):K0G Tryz.prog glX 82 [iv 14] R:=K0_by hmX hcT 3000 Tryz.func82 (p:=R (chB 2 3)) (by kernel_rfl) h
theorem cell85_15 {c:Cl} {R:V→Prop} (hb:Bd 3000 c) (h:R (.agg (clr (tn 15 c)))):K0G Tryz.prog glX 85 [(chB 3 3),.agg (clr c)] R:=by
  refine K0_by hmX hcT 3000 Tryz.func85 (p:=R (V.agg [iv (IntKind.i64.wrap (0 - (IntKind.i64.wrap (0 - c.2.1)))),iv (IntKind.i64.wrap (0 - (IntKind.i64.wrap (0 - c.2.2)))),iv (IntKind.i64.wrap (0 - (IntKind.i64.wrap (0 - c.1))))])) (by kernel_rfl) ?_
  unfold Bd Nr at hb
  obtain ⟨x1,x2,x3,x4,x5⟩:=wn6 (t:=c.1) (by omega) (by omega)
  obtain ⟨y1,y2,y3,y4,y5⟩:=wn6 (t:=c.2.1) (by omega) (by omega)
  obtain ⟨z1,z2,z3,z4,z5⟩:=wn6 (t:=c.2.2) (by omega) (by omega)
  try simp only [x1,x2,x3,x4,x5,y1,y2,y3,y4,y5,z1,z2,z3,z4,z5]
  exact h
theorem chain82_15 {R:V→Prop} (h:R (chB 3 3)):K0G Tryz.prog glX 82 [iv 15] R:=K0_by hmX hcT 3000 Tryz.func82 (p:=R (chB 3 3)) (by kernel_rfl) h
theorem cell85_16 {c:Cl} {R:V→Prop} (hb:Bd 3000 c) (h:R (.agg (clr (tn 16 c)))):K0G Tryz.prog glX 85 [(chC 0 1),.agg (clr c)] R:=by
  refine K0_by hmX hcT 3000 Tryz.func85 (p:=R (V.agg [iv (IntKind.i64.wrap (0 - (IntKind.i64.wrap (0 - c.2.2)))),iv c.1,iv c.2.1])) (by kernel_rfl) ?_
  unfold Bd Nr at hb
  obtain ⟨x1,x2,x3,x4,x5⟩:=wn6 (t:=c.1) (by omega) (by omega)
  obtain ⟨y1,y2,y3,y4,y5⟩:=wn6 (t:=c.2.1) (by omega) (by omega)
  obtain ⟨z1,z2,z3,z4,z5⟩:=wn6 (t:=c.2.2) (by omega) (by omega)
  try simp only [x1,x2,x3,x4,x5,y1,y2,y3,y4,y5,z1,z2,z3,z4,z5]
  exact h
theorem chain82_16 {R:V→Prop} (h:R (chC 0 1)):K0G Tryz.prog glX 82 [iv 16] R:=K0_by hmX hcT 3000 Tryz.func82 (p:=R (chC 0 1)) (by kernel_rfl) h
theorem cell85_17 {c:Cl} {R:V→Prop} (hb:Bd 3000 c) (h:R (.agg (clr (tn 17 c)))):K0G Tryz.prog glX 85 [(chC 1 1),.agg (clr c)] R:=by
  refine K0_by hmX hcT 3000 Tryz.func85 (p:=R (V.agg [iv (IntKind.i64.wrap (0 - (IntKind.i64.wrap (0 - c.2.2)))),iv (IntKind.i64.wrap (0 - c.2.1)),iv c.1])) (by kernel_rfl) ?_
  unfold Bd Nr at hb
  obtain ⟨x1,x2,x3,x4,x5⟩:=wn6 (t:=c.1) (by omega) (by omega)
  obtain ⟨y1,y2,y3,y4,y5⟩:=wn6 (t:=c.2.1) (by omega) (by omega)
  obtain ⟨z1,z2,z3,z4,z5⟩:=wn6 (t:=c.2.2) (by omega) (by omega)
  try simp only [x1,x2,x3,x4,x5,y1,y2,y3,y4,y5,z1,z2,z3,z4,z5]
  exact h
theorem chain82_17 {R:V→Prop} (h:R (chC 1 1)):K0G Tryz.prog glX 82 [iv 17] R:=K0_by hmX hcT 3000 Tryz.func82 (p:=R (chC 1 1)) (by kernel_rfl) h
theorem cell85_18 {c:Cl} {R:V→Prop} (hb:Bd 3000 c) (h:R (.agg (clr (tn 18 c)))):K0G Tryz.prog glX 85 [(chC 2 1),.agg (clr c)] R:=by
  refine K0_by hmX hcT 3000 Tryz.func85 (p:=R (V.agg [iv (IntKind.i64.wrap (0 - (IntKind.i64.wrap (0 - c.2.2)))),iv (IntKind.i64.wrap (0 - c.1)),iv (IntKind.i64.wrap (0 - c.2.1))])) (by kernel_rfl) ?_
  unfold Bd Nr at hb
  obtain ⟨x1,x2,x3,x4,x5⟩:=wn6 (t:=c.1) (by omega) (by omega)
  obtain ⟨y1,y2,y3,y4,y5⟩:=wn6 (t:=c.2.1) (by omega) (by omega)
  obtain ⟨z1,z2,z3,z4,z5⟩:=wn6 (t:=c.2.2) (by omega) (by omega)
  try simp only [x1,x2,x3,x4,x5,y1,y2,y3,y4,y5,z1,z2,z3,z4,z5]
  exact h
theorem chain82_18 {R:V→Prop} (h:R (chC 2 1)):K0G Tryz.prog glX 82 [iv 18] R:=K0_by hmX hcT 3000 Tryz.func82 (p:=R (chC 2 1)) (by kernel_rfl) h
theorem cell85_19 {c:Cl} {R:V→Prop} (hb:Bd 3000 c) (h:R (.agg (clr (tn 19 c)))):K0G Tryz.prog glX 85 [(chC 3 1),.agg (clr c)] R:=by
  refine K0_by hmX hcT 3000 Tryz.func85 (p:=R (V.agg [iv (IntKind.i64.wrap (0 - (IntKind.i64.wrap (0 - c.2.2)))),iv (IntKind.i64.wrap (0 - (IntKind.i64.wrap (0 - c.2.1)))),iv (IntKind.i64.wrap (0 - c.1))])) (by kernel_rfl) ?_
  unfold Bd Nr at hb
  obtain ⟨x1,x2,x3,x4,x5⟩:=wn6 (t:=c.1) (by omega) (by omega)
  obtain ⟨y1,y2,y3,y4,y5⟩:=wn6 (t:=c.2.1) (by omega) (by omega)
  obtain ⟨z1,z2,z3,z4,z5⟩:=wn6 (t:=c.2.2) (by omega) (by omega)
  try simp only [x1,x2,x3,x4,x5,y1,y2,y3,y4,y5,z1,z2,z3,z4,z5]
  exact h
theorem chain82_19 {R:V→Prop} (h:R (chC 3 1)):K0G Tryz.prog glX 82 [iv 19] R:=K0_by hmX hcT 3000 Tryz.func82 (p:=R (chC 3 1)) (by kernel_rfl) h
theorem cell85_20 {c:Cl} {R:V→Prop} (hb:Bd 3000 c) (h:R (.agg (clr (tn 20 c)))):K0G Tryz.prog glX 85 [(chC 0 3),.agg (clr c)] R:=by
  refine K0_by hmX hcT 3000 Tryz.func85 (p:=R (V.agg [iv (IntKind.i64.wrap (0 - (IntKind.i64.wrap (0 - (IntKind.i64.wrap (0 - c.2.2)))))),iv (IntKind.i64.wrap (0 - c.1)),iv c.2.1])) (by kernel_rfl) ?_
  unfold Bd Nr at hb
  obtain ⟨x1,x2,x3,x4,x5⟩:=wn6 (t:=c.1) (by omega) (by omega)
  obtain ⟨y1,y2,y3,y4,y5⟩:=wn6 (t:=c.2.1) (by omega) (by omega)
  obtain ⟨z1,z2,z3,z4,z5⟩:=wn6 (t:=c.2.2) (by omega) (by omega)
  try simp only [x1,x2,x3,x4,x5,y1,y2,y3,y4,y5,z1,z2,z3,z4,z5]
  exact h
theorem chain82_20 {R:V→Prop} (h:R (chC 0 3)):K0G Tryz.prog glX 82 [iv 20] R:=K0_by hmX hcT 3000 Tryz.func82 (p:=R (chC 0 3)) (by kernel_rfl) h
theorem cell85_21 {c:Cl} {R:V→Prop} (hb:Bd 3000 c) (h:R (.agg (clr (tn 21 c)))):K0G Tryz.prog glX 85 [(chC 1 3),.agg (clr c)] R:=by
  refine K0_by hmX hcT 3000 Tryz.func85 (p:=R (V.agg [iv (IntKind.i64.wrap (0 - (IntKind.i64.wrap (0 - (IntKind.i64.wrap (0 - c.2.2)))))),iv (IntKind.i64.wrap (0 - (IntKind.i64.wrap (0 - c.2.1)))),iv c.1])) (by kernel_rfl) ?_
  unfold Bd Nr at hb
  obtain ⟨x1,x2,x3,x4,x5⟩:=wn6 (t:=c.1) (by omega) (by omega)
  obtain ⟨y1,y2,y3,y4,y5⟩:=wn6 (t:=c.2.1) (by omega) (by omega)
  obtain ⟨z1,z2,z3,z4,z5⟩:=wn6 (t:=c.2.2) (by omega) (by omega)
  try simp only [x1,x2,x3,x4,x5,y1,y2,y3,y4,y5,z1,z2,z3,z4,z5]
  exact h
theorem chain82_21 {R:V→Prop} (h:R (chC 1 3)):K0G Tryz.prog glX 82 [iv 21] R:=K0_by hmX hcT 3000 Tryz.func82 (p:=R (chC 1 3)) (by kernel_rfl) h
theorem cell85_22 {c:Cl} {R:V→Prop} (hb:Bd 3000 c) (h:R (.agg (clr (tn 22 c)))):K0G Tryz.prog glX 85 [(chC 2 3),.agg (clr c)] R:=by
  refine K0_by hmX hcT 3000 Tryz.func85 (p:=R (V.agg [iv (IntKind.i64.wrap (0 - (IntKind.i64.wrap (0 - (IntKind.i64.wrap (0 - c.2.2)))))),iv (IntKind.i64.wrap (0 - (IntKind.i64.wrap (0 - c.1)))),iv (IntKind.i64.wrap (0 - c.2.1))])) (by kernel_rfl) ?_
  unfold Bd Nr at hb
  obtain ⟨x1,x2,x3,x4,x5⟩:=wn6 (t:=c.1) (by omega) (by omega)
  obtain ⟨y1,y2,y3,y4,y5⟩:=wn6 (t:=c.2.1) (by omega) (by omega)
  obtain ⟨z1,z2,z3,z4,z5⟩:=wn6 (t:=c.2.2) (by omega) (by omega)
  try simp only [x1,x2,x3,x4,x5,y1,y2,y3,y4,y5,z1,z2,z3,z4,z5]
  exact h
theorem chain82_22 {R:V→Prop} (h:R (chC 2 3)):K0G Tryz.prog glX 82 [iv 22] R:=K0_by hmX hcT 3000 Tryz.func82 (p:=R (chC 2 3)) (by kernel_rfl) h
theorem cell85_23 {c:Cl} {R:V→Prop} (hb:Bd 3000 c) (h:R (.agg (clr (tn 23 c)))):K0G Tryz.prog glX 85 [(chC 3 3),.agg (clr c)] R:=by
  refine K0_by hmX hcT 3000 Tryz.func85 (p:=R (V.agg [iv (IntKind.i64.wrap (0 - (IntKind.i64.wrap (0 - (IntKind.i64.wrap (0 - c.2.2)))))),iv (IntKind.i64.wrap (0 - (IntKind.i64.wrap (0 - (IntKind.i64.wrap (0 - c.2.1)))))),iv (IntKind.i64.wrap (0 - c.1))])) (by kernel_rfl) ?_
  unfold Bd Nr at hb
  obtain ⟨x1,x2,x3,x4,x5⟩:=wn6 (t:=c.1) (by omega) (by omega)
  obtain ⟨y1,y2,y3,y4,y5⟩:=wn6 (t:=c.2.1) (by omega) (by omega)
  obtain ⟨z1,z2,z3,z4,z5⟩:=wn6 (t:=c.2.2) (by omega) (by omega)
  try simp only [x1,x2,x3,x4,x5,y1,y2,y3,y4,y5,z1,z2,z3,z4,z5]
  exact h
theorem chain82_23 {R:V→Prop} (h:R (chC 3 3)):K0G Tryz.prog glX 82 [iv 23] R:=K0_by hmX hcT 3000 Tryz.func82 (p:=R (chC 3 3)) (by kernel_rfl) h
def ch (n:Nat):V:=if n / 4<1 then chA (n % 4:Nat) else if n / 4<4 then chB (n % 4:Nat) (n / 4:Nat) else chC (n % 4:Nat) (if n / 4=4 then 1 else 3)
theorem cell85 {c:Cl} {R:V→Prop} (hb:Bd 3000 c) : ∀ n:Nat,n<24→R (.agg (clr (tn n c)))→K0G Tryz.prog glX 85 [ch n,.agg (clr c)] R
  | 0,_=>fun h=>cell85_0 hb h
  | 1,_=>fun h=>cell85_1 hb h
  | 2,_=>fun h=>cell85_2 hb h
  | 3,_=>fun h=>cell85_3 hb h
  | 4,_=>fun h=>cell85_4 hb h
  | 5,_=>fun h=>cell85_5 hb h
  | 6,_=>fun h=>cell85_6 hb h
  | 7,_=>fun h=>cell85_7 hb h
  | 8,_=>fun h=>cell85_8 hb h
  | 9,_=>fun h=>cell85_9 hb h
  | 10,_=>fun h=>cell85_10 hb h
  | 11,_=>fun h=>cell85_11 hb h
  | 12,_=>fun h=>cell85_12 hb h
  | 13,_=>fun h=>cell85_13 hb h
  | 14,_=>fun h=>cell85_14 hb h
  | 15,_=>fun h=>cell85_15 hb h
  | 16,_=>fun h=>cell85_16 hb h
  | 17,_=>fun h=>cell85_17 hb h
  | 18,_=>fun h=>cell85_18 hb h
  | 19,_=>fun h=>cell85_19 hb h
  | 20,_=>fun h=>cell85_20 hb h
  | 21,_=>fun h=>cell85_21 hb h
  | 22,_=>fun h=>cell85_22 hb h
  | 23,_=>fun h=>cell85_23 hb h
  | n+24,h=>absurd h (by omega)
theorem chain82 {R:V→Prop} : ∀ n:Nat,n<24→R (ch n)→K0G Tryz.prog glX 82 [iv (n:Int)] R
  | 0,_=>fun h=>chain82_0 h
  | 1,_=>fun h=>chain82_1 h
  | 2,_=>fun h=>chain82_2 h
  | 3,_=>fun h=>chain82_3 h
  | 4,_=>fun h=>chain82_4 h
  | 5,_=>fun h=>chain82_5 h
  | 6,_=>fun h=>chain82_6 h
  | 7,_=>fun h=>chain82_7 h
  | 8,_=>fun h=>chain82_8 h
  | 9,_=>fun h=>chain82_9 h
  | 10,_=>fun h=>chain82_10 h
  | 11,_=>fun h=>chain82_11 h
  | 12,_=>fun h=>chain82_12 h
  | 13,_=>fun h=>chain82_13 h
  | 14,_=>fun h=>chain82_14 h
  | 15,_=>fun h=>chain82_15 h
  | 16,_=>fun h=>chain82_16 h
  | 17,_=>fun h=>chain82_17 h
  | 18,_=>fun h=>chain82_18 h
  | 19,_=>fun h=>chain82_19 h
  | 20,_=>fun h=>chain82_20 h
  | 21,_=>fun h=>chain82_21 h
  | 22,_=>fun h=>chain82_22 h
  | 23,_=>fun h=>chain82_23 h
  | n+24,h=>absurd h (by omega)
end Go.Proofs.YtbionhgjgcpogaaGreatDoor
namespace Go.Proofs.YtbionhgjgcpogaaGreatDoor
open Go Go.Proofs.YtbionhgjgcpogaaGreatDoor.Clean
set_option linter.unusedVariables false
set_option linter.unusedSimpArgs false
set_option maxRecDepth 10000
def ptL:List (List Int):=[[0,1,2,3,4,5],[2,3,1,0,4,5],[1,0,3,2,4,5],[3,2,0,1,4,5],[0,1,4,5,3,2],[4,5,1,0,3,2],[1,0,5,4,3,2],[5,4,0,1,3,2],[0,1,3,2,5,4],[3,2,1,0,5,4],[1,0,2,3,5,4],[2,3,0,1,5,4],[0,1,5,4,2,3],[5,4,1,0,2,3],[1,0,4,5,2,3],[4,5,0,1,2,3],[2,3,4,5,0,1],[4,5,3,2,0,1],[3,2,5,4,0,1],[5,4,2,3,0,1],[3,2,4,5,1,0],[4,5,2,3,1,0],[2,3,5,4,1,0],[5,4,3,2,1,0]]
def pt (n:Nat) (d:Int):Int:=(ptL.getD n []).getD d.toNat 0
theorem dir83_0_0 {R:V→Prop} (h:R (iv 0)):K0G Tryz.prog glX 83 [(chA 0),iv 0] R:=K0_by hmX hcU 3000 Tryz.func83 (p:=R (iv 0)) (by kernel_rfl) h
theorem dir83_0_1 {R:V→Prop} (h:R (iv 1)):K0G Tryz.prog glX 83 [(chA 0),iv 1] R:=K0_by hmX hcU 3000 Tryz.func83 (p:=R (iv 1)) (by kernel_rfl) h
theorem dir83_0_2 {R:V→Prop} (h:R (iv 2)):K0G Tryz.prog glX 83 [(chA 0),iv 2] R:=K0_by hmX hcU 3000 Tryz.func83 (p:=R (iv 2)) (by kernel_rfl) h
theorem dir83_0_3 {R:V→Prop} (h:R (iv 3)):K0G Tryz.prog glX 83 [(chA 0),iv 3] R:=K0_by hmX hcU 3000 Tryz.func83 (p:=R (iv 3)) (by kernel_rfl) h
theorem dir83_0_4 {R:V→Prop} (h:R (iv 4)):K0G Tryz.prog glX 83 [(chA 0),iv 4] R:=K0_by hmX hcU 3000 Tryz.func83 (p:=R (iv 4)) (by kernel_rfl) h
theorem dir83_0_5 {R:V→Prop} (h:R (iv 5)):K0G Tryz.prog glX 83 [(chA 0),iv 5] R:=K0_by hmX hcU 3000 Tryz.func83 (p:=R (iv 5)) (by kernel_rfl) h
theorem dir83_1_0 {R:V→Prop} (h:R (iv 2)):K0G Tryz.prog glX 83 [(chA 1),iv 0] R:=K0_by hmX hcU 3000 Tryz.func83 (p:=R (iv 2)) (by kernel_rfl) h
theorem dir83_1_1 {R:V→Prop} (h:R (iv 3)):K0G Tryz.prog glX 83 [(chA 1),iv 1] R:=K0_by hmX hcU 3000 Tryz.func83 (p:=R (iv 3)) (by kernel_rfl) h
theorem dir83_1_2 {R:V→Prop} (h:R (iv 1)):K0G Tryz.prog glX 83 [(chA 1),iv 2] R:=K0_by hmX hcU 3000 Tryz.func83 (p:=R (iv 1)) (by kernel_rfl) h
theorem dir83_1_3 {R:V→Prop} (h:R (iv 0)):K0G Tryz.prog glX 83 [(chA 1),iv 3] R:=K0_by hmX hcU 3000 Tryz.func83 (p:=R (iv 0)) (by kernel_rfl) h
theorem dir83_1_4 {R:V→Prop} (h:R (iv 4)):K0G Tryz.prog glX 83 [(chA 1),iv 4] R:=K0_by hmX hcU 3000 Tryz.func83 (p:=R (iv 4)) (by kernel_rfl) h
theorem dir83_1_5 {R:V→Prop} (h:R (iv 5)):K0G Tryz.prog glX 83 [(chA 1),iv 5] R:=K0_by hmX hcU 3000 Tryz.func83 (p:=R (iv 5)) (by kernel_rfl) h
theorem dir83_2_0 {R:V→Prop} (h:R (iv 1)):K0G Tryz.prog glX 83 [(chA 2),iv 0] R:=K0_by hmX hcU 3000 Tryz.func83 (p:=R (iv 1)) (by kernel_rfl) h
theorem dir83_2_1 {R:V→Prop} (h:R (iv 0)):K0G Tryz.prog glX 83 [(chA 2),iv 1] R:=K0_by hmX hcU 3000 Tryz.func83 (p:=R (iv 0)) (by kernel_rfl) h
theorem dir83_2_2 {R:V→Prop} (h:R (iv 3)):K0G Tryz.prog glX 83 [(chA 2),iv 2] R:=K0_by hmX hcU 3000 Tryz.func83 (p:=R (iv 3)) (by kernel_rfl) h
theorem dir83_2_3 {R:V→Prop} (h:R (iv 2)):K0G Tryz.prog glX 83 [(chA 2),iv 3] R:=K0_by hmX hcU 3000 Tryz.func83 (p:=R (iv 2)) (by kernel_rfl) h
theorem dir83_2_4 {R:V→Prop} (h:R (iv 4)):K0G Tryz.prog glX 83 [(chA 2),iv 4] R:=K0_by hmX hcU 3000 Tryz.func83 (p:=R (iv 4)) (by kernel_rfl) h
theorem dir83_2_5 {R:V→Prop} (h:R (iv 5)):K0G Tryz.prog glX 83 [(chA 2),iv 5] R:=K0_by hmX hcU 3000 Tryz.func83 (p:=R (iv 5)) (by kernel_rfl) h
theorem dir83_3_0 {R:V→Prop} (h:R (iv 3)):K0G Tryz.prog glX 83 [(chA 3),iv 0] R:=K0_by hmX hcU 3000 Tryz.func83 (p:=R (iv 3)) (by kernel_rfl) h
theorem dir83_3_1 {R:V→Prop} (h:R (iv 2)):K0G Tryz.prog glX 83 [(chA 3),iv 1] R:=K0_by hmX hcU 3000 Tryz.func83 (p:=R (iv 2)) (by kernel_rfl) h
theorem dir83_3_2 {R:V→Prop} (h:R (iv 0)):K0G Tryz.prog glX 83 [(chA 3),iv 2] R:=K0_by hmX hcU 3000 Tryz.func83 (p:=R (iv 0)) (by kernel_rfl) h
theorem dir83_3_3 {R:V→Prop} (h:R (iv 1)):K0G Tryz.prog glX 83 [(chA 3),iv 3] R:=K0_by hmX hcU 3000 Tryz.func83 (p:=R (iv 1)) (by kernel_rfl) h
theorem dir83_3_4 {R:V→Prop} (h:R (iv 4)):K0G Tryz.prog glX 83 [(chA 3),iv 4] R:=K0_by hmX hcU 3000 Tryz.func83 (p:=R (iv 4)) (by kernel_rfl) h
theorem dir83_3_5 {R:V→Prop} (h:R (iv 5)):K0G Tryz.prog glX 83 [(chA 3),iv 5] R:=K0_by hmX hcU 3000 Tryz.func83 (p:=R (iv 5)) (by kernel_rfl) h
theorem dir83_4_0 {R:V→Prop} (h:R (iv 0)):K0G Tryz.prog glX 83 [(chB 0 1),iv 0] R:=K0_by hmX hcU 3000 Tryz.func83 (p:=R (iv 0)) (by kernel_rfl) h
theorem dir83_4_1 {R:V→Prop} (h:R (iv 1)):K0G Tryz.prog glX 83 [(chB 0 1),iv 1] R:=K0_by hmX hcU 3000 Tryz.func83 (p:=R (iv 1)) (by kernel_rfl) h
theorem dir83_4_2 {R:V→Prop} (h:R (iv 4)):K0G Tryz.prog glX 83 [(chB 0 1),iv 2] R:=K0_by hmX hcU 3000 Tryz.func83 (p:=R (iv 4)) (by kernel_rfl) h
theorem dir83_4_3 {R:V→Prop} (h:R (iv 5)):K0G Tryz.prog glX 83 [(chB 0 1),iv 3] R:=K0_by hmX hcU 3000 Tryz.func83 (p:=R (iv 5)) (by kernel_rfl) h
theorem dir83_4_4 {R:V→Prop} (h:R (iv 3)):K0G Tryz.prog glX 83 [(chB 0 1),iv 4] R:=K0_by hmX hcU 3000 Tryz.func83 (p:=R (iv 3)) (by kernel_rfl) h
theorem dir83_4_5 {R:V→Prop} (h:R (iv 2)):K0G Tryz.prog glX 83 [(chB 0 1),iv 5] R:=K0_by hmX hcU 3000 Tryz.func83 (p:=R (iv 2)) (by kernel_rfl) h
theorem dir83_5_0 {R:V→Prop} (h:R (iv 4)):K0G Tryz.prog glX 83 [(chB 1 1),iv 0] R:=K0_by hmX hcU 3000 Tryz.func83 (p:=R (iv 4)) (by kernel_rfl) h
theorem dir83_5_1 {R:V→Prop} (h:R (iv 5)):K0G Tryz.prog glX 83 [(chB 1 1),iv 1] R:=K0_by hmX hcU 3000 Tryz.func83 (p:=R (iv 5)) (by kernel_rfl) h
theorem dir83_5_2 {R:V→Prop} (h:R (iv 1)):K0G Tryz.prog glX 83 [(chB 1 1),iv 2] R:=K0_by hmX hcU 3000 Tryz.func83 (p:=R (iv 1)) (by kernel_rfl) h
theorem dir83_5_3 {R:V→Prop} (h:R (iv 0)):K0G Tryz.prog glX 83 [(chB 1 1),iv 3] R:=K0_by hmX hcU 3000 Tryz.func83 (p:=R (iv 0)) (by kernel_rfl) h
theorem dir83_5_4 {R:V→Prop} (h:R (iv 3)):K0G Tryz.prog glX 83 [(chB 1 1),iv 4] R:=K0_by hmX hcU 3000 Tryz.func83 (p:=R (iv 3)) (by kernel_rfl) h
theorem dir83_5_5 {R:V→Prop} (h:R (iv 2)):K0G Tryz.prog glX 83 [(chB 1 1),iv 5] R:=K0_by hmX hcU 3000 Tryz.func83 (p:=R (iv 2)) (by kernel_rfl) h
theorem dir83_6_0 {R:V→Prop} (h:R (iv 1)):K0G Tryz.prog glX 83 [(chB 2 1),iv 0] R:=K0_by hmX hcU 3000 Tryz.func83 (p:=R (iv 1)) (by kernel_rfl) h
theorem dir83_6_1 {R:V→Prop} (h:R (iv 0)):K0G Tryz.prog glX 83 [(chB 2 1),iv 1] R:=K0_by hmX hcU 3000 Tryz.func83 (p:=R (iv 0)) (by kernel_rfl) h
theorem dir83_6_2 {R:V→Prop} (h:R (iv 5)):K0G Tryz.prog glX 83 [(chB 2 1),iv 2] R:=K0_by hmX hcU 3000 Tryz.func83 (p:=R (iv 5)) (by kernel_rfl) h
theorem dir83_6_3 {R:V→Prop} (h:R (iv 4)):K0G Tryz.prog glX 83 [(chB 2 1),iv 3] R:=K0_by hmX hcU 3000 Tryz.func83 (p:=R (iv 4)) (by kernel_rfl) h
theorem dir83_6_4 {R:V→Prop} (h:R (iv 3)):K0G Tryz.prog glX 83 [(chB 2 1),iv 4] R:=K0_by hmX hcU 3000 Tryz.func83 (p:=R (iv 3)) (by kernel_rfl) h
theorem dir83_6_5 {R:V→Prop} (h:R (iv 2)):K0G Tryz.prog glX 83 [(chB 2 1),iv 5] R:=K0_by hmX hcU 3000 Tryz.func83 (p:=R (iv 2)) (by kernel_rfl) h
theorem dir83_7_0 {R:V→Prop} (h:R (iv 5)):K0G Tryz.prog glX 83 [(chB 3 1),iv 0] R:=K0_by hmX hcU 3000 Tryz.func83 (p:=R (iv 5)) (by kernel_rfl) h
theorem dir83_7_1 {R:V→Prop} (h:R (iv 4)):K0G Tryz.prog glX 83 [(chB 3 1),iv 1] R:=K0_by hmX hcU 3000 Tryz.func83 (p:=R (iv 4)) (by kernel_rfl) h
theorem dir83_7_2 {R:V→Prop} (h:R (iv 0)):K0G Tryz.prog glX 83 [(chB 3 1),iv 2] R:=K0_by hmX hcU 3000 Tryz.func83 (p:=R (iv 0)) (by kernel_rfl) h
theorem dir83_7_3 {R:V→Prop} (h:R (iv 1)):K0G Tryz.prog glX 83 [(chB 3 1),iv 3] R:=K0_by hmX hcU 3000 Tryz.func83 (p:=R (iv 1)) (by kernel_rfl) h
theorem dir83_7_4 {R:V→Prop} (h:R (iv 3)):K0G Tryz.prog glX 83 [(chB 3 1),iv 4] R:=K0_by hmX hcU 3000 Tryz.func83 (p:=R (iv 3)) (by kernel_rfl) h
theorem dir83_7_5 {R:V→Prop} (h:R (iv 2)):K0G Tryz.prog glX 83 [(chB 3 1),iv 5] R:=K0_by hmX hcU 3000 Tryz.func83 (p:=R (iv 2)) (by kernel_rfl) h
theorem dir83_8_0 {R:V→Prop} (h:R (iv 0)):K0G Tryz.prog glX 83 [(chB 0 2),iv 0] R:=K0_by hmX hcU 3000 Tryz.func83 (p:=R (iv 0)) (by kernel_rfl) h
theorem dir83_8_1 {R:V→Prop} (h:R (iv 1)):K0G Tryz.prog glX 83 [(chB 0 2),iv 1] R:=K0_by hmX hcU 3000 Tryz.func83 (p:=R (iv 1)) (by kernel_rfl) h
theorem dir83_8_2 {R:V→Prop} (h:R (iv 3)):K0G Tryz.prog glX 83 [(chB 0 2),iv 2] R:=K0_by hmX hcU 3000 Tryz.func83 (p:=R (iv 3)) (by kernel_rfl) h
theorem dir83_8_3 {R:V→Prop} (h:R (iv 2)):K0G Tryz.prog glX 83 [(chB 0 2),iv 3] R:=K0_by hmX hcU 3000 Tryz.func83 (p:=R (iv 2)) (by kernel_rfl) h
theorem dir83_8_4 {R:V→Prop} (h:R (iv 5)):K0G Tryz.prog glX 83 [(chB 0 2),iv 4] R:=K0_by hmX hcU 3000 Tryz.func83 (p:=R (iv 5)) (by kernel_rfl) h
theorem dir83_8_5 {R:V→Prop} (h:R (iv 4)):K0G Tryz.prog glX 83 [(chB 0 2),iv 5] R:=K0_by hmX hcU 3000 Tryz.func83 (p:=R (iv 4)) (by kernel_rfl) h
theorem dir83_9_0 {R:V→Prop} (h:R (iv 3)):K0G Tryz.prog glX 83 [(chB 1 2),iv 0] R:=K0_by hmX hcU 3000 Tryz.func83 (p:=R (iv 3)) (by kernel_rfl) h
theorem dir83_9_1 {R:V→Prop} (h:R (iv 2)):K0G Tryz.prog glX 83 [(chB 1 2),iv 1] R:=K0_by hmX hcU 3000 Tryz.func83 (p:=R (iv 2)) (by kernel_rfl) h
theorem dir83_9_2 {R:V→Prop} (h:R (iv 1)):K0G Tryz.prog glX 83 [(chB 1 2),iv 2] R:=K0_by hmX hcU 3000 Tryz.func83 (p:=R (iv 1)) (by kernel_rfl) h
theorem dir83_9_3 {R:V→Prop} (h:R (iv 0)):K0G Tryz.prog glX 83 [(chB 1 2),iv 3] R:=K0_by hmX hcU 3000 Tryz.func83 (p:=R (iv 0)) (by kernel_rfl) h
theorem dir83_9_4 {R:V→Prop} (h:R (iv 5)):K0G Tryz.prog glX 83 [(chB 1 2),iv 4] R:=K0_by hmX hcU 3000 Tryz.func83 (p:=R (iv 5)) (by kernel_rfl) h
theorem dir83_9_5 {R:V→Prop} (h:R (iv 4)):K0G Tryz.prog glX 83 [(chB 1 2),iv 5] R:=K0_by hmX hcU 3000 Tryz.func83 (p:=R (iv 4)) (by kernel_rfl) h
theorem dir83_10_0 {R:V→Prop} (h:R (iv 1)):K0G Tryz.prog glX 83 [(chB 2 2),iv 0] R:=K0_by hmX hcU 3000 Tryz.func83 (p:=R (iv 1)) (by kernel_rfl) h
theorem dir83_10_1 {R:V→Prop} (h:R (iv 0)):K0G Tryz.prog glX 83 [(chB 2 2),iv 1] R:=K0_by hmX hcU 3000 Tryz.func83 (p:=R (iv 0)) (by kernel_rfl) h
theorem dir83_10_2 {R:V→Prop} (h:R (iv 2)):K0G Tryz.prog glX 83 [(chB 2 2),iv 2] R:=K0_by hmX hcU 3000 Tryz.func83 (p:=R (iv 2)) (by kernel_rfl) h
theorem dir83_10_3 {R:V→Prop} (h:R (iv 3)):K0G Tryz.prog glX 83 [(chB 2 2),iv 3] R:=K0_by hmX hcU 3000 Tryz.func83 (p:=R (iv 3)) (by kernel_rfl) h
theorem dir83_10_4 {R:V→Prop} (h:R (iv 5)):K0G Tryz.prog glX 83 [(chB 2 2),iv 4] R:=K0_by hmX hcU 3000 Tryz.func83 (p:=R (iv 5)) (by kernel_rfl) h
theorem dir83_10_5 {R:V→Prop} (h:R (iv 4)):K0G Tryz.prog glX 83 [(chB 2 2),iv 5] R:=K0_by hmX hcU 3000 Tryz.func83 (p:=R (iv 4)) (by kernel_rfl) h
theorem dir83_11_0 {R:V→Prop} (h:R (iv 2)):K0G Tryz.prog glX 83 [(chB 3 2),iv 0] R:=K0_by hmX hcU 3000 Tryz.func83 (p:=R (iv 2)) (by kernel_rfl) h
theorem dir83_11_1 {R:V→Prop} (h:R (iv 3)):K0G Tryz.prog glX 83 [(chB 3 2),iv 1] R:=K0_by hmX hcU 3000 Tryz.func83 (p:=R (iv 3)) (by kernel_rfl) h
theorem dir83_11_2 {R:V→Prop} (h:R (iv 0)):K0G Tryz.prog glX 83 [(chB 3 2),iv 2] R:=K0_by hmX hcU 3000 Tryz.func83 (p:=R (iv 0)) (by kernel_rfl) h
theorem dir83_11_3 {R:V→Prop} (h:R (iv 1)):K0G Tryz.prog glX 83 [(chB 3 2),iv 3] R:=K0_by hmX hcU 3000 Tryz.func83 (p:=R (iv 1)) (by kernel_rfl) h
theorem dir83_11_4 {R:V→Prop} (h:R (iv 5)):K0G Tryz.prog glX 83 [(chB 3 2),iv 4] R:=K0_by hmX hcU 3000 Tryz.func83 (p:=R (iv 5)) (by kernel_rfl) h
theorem dir83_11_5 {R:V→Prop} (h:R (iv 4)):K0G Tryz.prog glX 83 [(chB 3 2),iv 5] R:=K0_by hmX hcU 3000 Tryz.func83 (p:=R (iv 4)) (by kernel_rfl) h
theorem dir83_12_0 {R:V→Prop} (h:R (iv 0)):K0G Tryz.prog glX 83 [(chB 0 3),iv 0] R:=K0_by hmX hcU 3000 Tryz.func83 (p:=R (iv 0)) (by kernel_rfl) h
theorem dir83_12_1 {R:V→Prop} (h:R (iv 1)):K0G Tryz.prog glX 83 [(chB 0 3),iv 1] R:=K0_by hmX hcU 3000 Tryz.func83 (p:=R (iv 1)) (by kernel_rfl) h
theorem dir83_12_2 {R:V→Prop} (h:R (iv 5)):K0G Tryz.prog glX 83 [(chB 0 3),iv 2] R:=K0_by hmX hcU 3000 Tryz.func83 (p:=R (iv 5)) (by kernel_rfl) h
theorem dir83_12_3 {R:V→Prop} (h:R (iv 4)):K0G Tryz.prog glX 83 [(chB 0 3),iv 3] R:=K0_by hmX hcU 3000 Tryz.func83 (p:=R (iv 4)) (by kernel_rfl) h
theorem dir83_12_4 {R:V→Prop} (h:R (iv 2)):K0G Tryz.prog glX 83 [(chB 0 3),iv 4] R:=K0_by hmX hcU 3000 Tryz.func83 (p:=R (iv 2)) (by kernel_rfl) h
theorem dir83_12_5 {R:V→Prop} (h:R (iv 3)):K0G Tryz.prog glX 83 [(chB 0 3),iv 5] R:=K0_by hmX hcU 3000 Tryz.func83 (p:=R (iv 3)) (by kernel_rfl) h
theorem dir83_13_0 {R:V→Prop} (h:R (iv 5)):K0G Tryz.prog glX 83 [(chB 1 3),iv 0] R:=K0_by hmX hcU 3000 Tryz.func83 (p:=R (iv 5)) (by kernel_rfl) h
theorem dir83_13_1 {R:V→Prop} (h:R (iv 4)):K0G Tryz.prog glX 83 [(chB 1 3),iv 1] R:=K0_by hmX hcU 3000 Tryz.func83 (p:=R (iv 4)) (by kernel_rfl) h
theorem dir83_13_2 {R:V→Prop} (h:R (iv 1)):K0G Tryz.prog glX 83 [(chB 1 3),iv 2] R:=K0_by hmX hcU 3000 Tryz.func83 (p:=R (iv 1)) (by kernel_rfl) h
theorem dir83_13_3 {R:V→Prop} (h:R (iv 0)):K0G Tryz.prog glX 83 [(chB 1 3),iv 3] R:=K0_by hmX hcU 3000 Tryz.func83 (p:=R (iv 0)) (by kernel_rfl) h
theorem dir83_13_4 {R:V→Prop} (h:R (iv 2)):K0G Tryz.prog glX 83 [(chB 1 3),iv 4] R:=K0_by hmX hcU 3000 Tryz.func83 (p:=R (iv 2)) (by kernel_rfl) h
theorem dir83_13_5 {R:V→Prop} (h:R (iv 3)):K0G Tryz.prog glX 83 [(chB 1 3),iv 5] R:=K0_by hmX hcU 3000 Tryz.func83 (p:=R (iv 3)) (by kernel_rfl) h
theorem dir83_14_0 {R:V→Prop} (h:R (iv 1)):K0G Tryz.prog glX 83 [(chB 2 3),iv 0] R:=K0_by hmX hcU 3000 Tryz.func83 (p:=R (iv 1)) (by kernel_rfl) h
theorem dir83_14_1 {R:V→Prop} (h:R (iv 0)):K0G Tryz.prog glX 83 [(chB 2 3),iv 1] R:=K0_by hmX hcU 3000 Tryz.func83 (p:=R (iv 0)) (by kernel_rfl) h
theorem dir83_14_2 {R:V→Prop} (h:R (iv 4)):K0G Tryz.prog glX 83 [(chB 2 3),iv 2] R:=K0_by hmX hcU 3000 Tryz.func83 (p:=R (iv 4)) (by kernel_rfl) h
theorem dir83_14_3 {R:V→Prop} (h:R (iv 5)):K0G Tryz.prog glX 83 [(chB 2 3),iv 3] R:=K0_by hmX hcU 3000 Tryz.func83 (p:=R (iv 5)) (by kernel_rfl) h
theorem dir83_14_4 {R:V→Prop} (h:R (iv 2)):K0G Tryz.prog glX 83 [(chB 2 3),iv 4] R:=K0_by hmX hcU 3000 Tryz.func83 (p:=R (iv 2)) (by kernel_rfl) h
theorem dir83_14_5 {R:V→Prop} (h:R (iv 3)):K0G Tryz.prog glX 83 [(chB 2 3),iv 5] R:=K0_by hmX hcU 3000 Tryz.func83 (p:=R (iv 3)) (by kernel_rfl) h
theorem dir83_15_0 {R:V→Prop} (h:R (iv 4)):K0G Tryz.prog glX 83 [(chB 3 3),iv 0] R:=K0_by hmX hcU 3000 Tryz.func83 (p:=R (iv 4)) (by kernel_rfl) h
theorem dir83_15_1 {R:V→Prop} (h:R (iv 5)):K0G Tryz.prog glX 83 [(chB 3 3),iv 1] R:=K0_by hmX hcU 3000 Tryz.func83 (p:=R (iv 5)) (by kernel_rfl) h
theorem dir83_15_2 {R:V→Prop} (h:R (iv 0)):K0G Tryz.prog glX 83 [(chB 3 3),iv 2] R:=K0_by hmX hcU 3000 Tryz.func83 (p:=R (iv 0)) (by kernel_rfl) h
theorem dir83_15_3 {R:V→Prop} (h:R (iv 1)):K0G Tryz.prog glX 83 [(chB 3 3),iv 3] R:=K0_by hmX hcU 3000 Tryz.func83 (p:=R (iv 1)) (by kernel_rfl) h
theorem dir83_15_4 {R:V→Prop} (h:R (iv 2)):K0G Tryz.prog glX 83 [(chB 3 3),iv 4] R:=K0_by hmX hcU 3000 Tryz.func83 (p:=R (iv 2)) (by kernel_rfl) h
theorem dir83_15_5 {R:V→Prop} (h:R (iv 3)):K0G Tryz.prog glX 83 [(chB 3 3),iv 5] R:=K0_by hmX hcU 3000 Tryz.func83 (p:=R (iv 3)) (by kernel_rfl) h
theorem dir83_16_0 {R:V→Prop} (h:R (iv 2)):K0G Tryz.prog glX 83 [(chC 0 1),iv 0] R:=K0_by hmX hcU 3000 Tryz.func83 (p:=R (iv 2)) (by kernel_rfl) h
theorem dir83_16_1 {R:V→Prop} (h:R (iv 3)):K0G Tryz.prog glX 83 [(chC 0 1),iv 1] R:=K0_by hmX hcU 3000 Tryz.func83 (p:=R (iv 3)) (by kernel_rfl) h
theorem dir83_16_2 {R:V→Prop} (h:R (iv 4)):K0G Tryz.prog glX 83 [(chC 0 1),iv 2] R:=K0_by hmX hcU 3000 Tryz.func83 (p:=R (iv 4)) (by kernel_rfl) h
theorem dir83_16_3 {R:V→Prop} (h:R (iv 5)):K0G Tryz.prog glX 83 [(chC 0 1),iv 3] R:=K0_by hmX hcU 3000 Tryz.func83 (p:=R (iv 5)) (by kernel_rfl) h
theorem dir83_16_4 {R:V→Prop} (h:R (iv 0)):K0G Tryz.prog glX 83 [(chC 0 1),iv 4] R:=K0_by hmX hcU 3000 Tryz.func83 (p:=R (iv 0)) (by kernel_rfl) h
theorem dir83_16_5 {R:V→Prop} (h:R (iv 1)):K0G Tryz.prog glX 83 [(chC 0 1),iv 5] R:=K0_by hmX hcU 3000 Tryz.func83 (p:=R (iv 1)) (by kernel_rfl) h
theorem dir83_17_0 {R:V→Prop} (h:R (iv 4)):K0G Tryz.prog glX 83 [(chC 1 1),iv 0] R:=K0_by hmX hcU 3000 Tryz.func83 (p:=R (iv 4)) (by kernel_rfl) h
theorem dir83_17_1 {R:V→Prop} (h:R (iv 5)):K0G Tryz.prog glX 83 [(chC 1 1),iv 1] R:=K0_by hmX hcU 3000 Tryz.func83 (p:=R (iv 5)) (by kernel_rfl) h
theorem dir83_17_2 {R:V→Prop} (h:R (iv 3)):K0G Tryz.prog glX 83 [(chC 1 1),iv 2] R:=K0_by hmX hcU 3000 Tryz.func83 (p:=R (iv 3)) (by kernel_rfl) h
theorem dir83_17_3 {R:V→Prop} (h:R (iv 2)):K0G Tryz.prog glX 83 [(chC 1 1),iv 3] R:=K0_by hmX hcU 3000 Tryz.func83 (p:=R (iv 2)) (by kernel_rfl) h
theorem dir83_17_4 {R:V→Prop} (h:R (iv 0)):K0G Tryz.prog glX 83 [(chC 1 1),iv 4] R:=K0_by hmX hcU 3000 Tryz.func83 (p:=R (iv 0)) (by kernel_rfl) h
theorem dir83_17_5 {R:V→Prop} (h:R (iv 1)):K0G Tryz.prog glX 83 [(chC 1 1),iv 5] R:=K0_by hmX hcU 3000 Tryz.func83 (p:=R (iv 1)) (by kernel_rfl) h
theorem dir83_18_0 {R:V→Prop} (h:R (iv 3)):K0G Tryz.prog glX 83 [(chC 2 1),iv 0] R:=K0_by hmX hcU 3000 Tryz.func83 (p:=R (iv 3)) (by kernel_rfl) h
theorem dir83_18_1 {R:V→Prop} (h:R (iv 2)):K0G Tryz.prog glX 83 [(chC 2 1),iv 1] R:=K0_by hmX hcU 3000 Tryz.func83 (p:=R (iv 2)) (by kernel_rfl) h
theorem dir83_18_2 {R:V→Prop} (h:R (iv 5)):K0G Tryz.prog glX 83 [(chC 2 1),iv 2] R:=K0_by hmX hcU 3000 Tryz.func83 (p:=R (iv 5)) (by kernel_rfl) h
theorem dir83_18_3 {R:V→Prop} (h:R (iv 4)):K0G Tryz.prog glX 83 [(chC 2 1),iv 3] R:=K0_by hmX hcU 3000 Tryz.func83 (p:=R (iv 4)) (by kernel_rfl) h
theorem dir83_18_4 {R:V→Prop} (h:R (iv 0)):K0G Tryz.prog glX 83 [(chC 2 1),iv 4] R:=K0_by hmX hcU 3000 Tryz.func83 (p:=R (iv 0)) (by kernel_rfl) h
theorem dir83_18_5 {R:V→Prop} (h:R (iv 1)):K0G Tryz.prog glX 83 [(chC 2 1),iv 5] R:=K0_by hmX hcU 3000 Tryz.func83 (p:=R (iv 1)) (by kernel_rfl) h
theorem dir83_19_0 {R:V→Prop} (h:R (iv 5)):K0G Tryz.prog glX 83 [(chC 3 1),iv 0] R:=K0_by hmX hcU 3000 Tryz.func83 (p:=R (iv 5)) (by kernel_rfl) h
theorem dir83_19_1 {R:V→Prop} (h:R (iv 4)):K0G Tryz.prog glX 83 [(chC 3 1),iv 1] R:=K0_by hmX hcU 3000 Tryz.func83 (p:=R (iv 4)) (by kernel_rfl) h
theorem dir83_19_2 {R:V→Prop} (h:R (iv 2)):K0G Tryz.prog glX 83 [(chC 3 1),iv 2] R:=K0_by hmX hcU 3000 Tryz.func83 (p:=R (iv 2)) (by kernel_rfl) h
theorem dir83_19_3 {R:V→Prop} (h:R (iv 3)):K0G Tryz.prog glX 83 [(chC 3 1),iv 3] R:=K0_by hmX hcU 3000 Tryz.func83 (p:=R (iv 3)) (by kernel_rfl) h
theorem dir83_19_4 {R:V→Prop} (h:R (iv 0)):K0G Tryz.prog glX 83 [(chC 3 1),iv 4] R:=K0_by hmX hcU 3000 Tryz.func83 (p:=R (iv 0)) (by kernel_rfl) h
theorem dir83_19_5 {R:V→Prop} (h:R (iv 1)):K0G Tryz.prog glX 83 [(chC 3 1),iv 5] R:=K0_by hmX hcU 3000 Tryz.func83 (p:=R (iv 1)) (by kernel_rfl) h
theorem dir83_20_0 {R:V→Prop} (h:R (iv 3)):K0G Tryz.prog glX 83 [(chC 0 3),iv 0] R:=K0_by hmX hcU 3000 Tryz.func83 (p:=R (iv 3)) (by kernel_rfl) h
theorem dir83_20_1 {R:V→Prop} (h:R (iv 2)):K0G Tryz.prog glX 83 [(chC 0 3),iv 1] R:=K0_by hmX hcU 3000 Tryz.func83 (p:=R (iv 2)) (by kernel_rfl) h
theorem dir83_20_2 {R:V→Prop} (h:R (iv 4)):K0G Tryz.prog glX 83 [(chC 0 3),iv 2] R:=K0_by hmX hcU 3000 Tryz.func83 (p:=R (iv 4)) (by kernel_rfl) h
theorem dir83_20_3 {R:V→Prop} (h:R (iv 5)):K0G Tryz.prog glX 83 [(chC 0 3),iv 3] R:=K0_by hmX hcU 3000 Tryz.func83 (p:=R (iv 5)) (by kernel_rfl) h
theorem dir83_20_4 {R:V→Prop} (h:R (iv 1)):K0G Tryz.prog glX 83 [(chC 0 3),iv 4] R:=K0_by hmX hcU 3000 Tryz.func83 (p:=R (iv 1)) (by kernel_rfl) h
theorem dir83_20_5 {R:V→Prop} (h:R (iv 0)):K0G Tryz.prog glX 83 [(chC 0 3),iv 5] R:=K0_by hmX hcU 3000 Tryz.func83 (p:=R (iv 0)) (by kernel_rfl) h
theorem dir83_21_0 {R:V→Prop} (h:R (iv 4)):K0G Tryz.prog glX 83 [(chC 1 3),iv 0] R:=K0_by hmX hcU 3000 Tryz.func83 (p:=R (iv 4)) (by kernel_rfl) h
theorem dir83_21_1 {R:V→Prop} (h:R (iv 5)):K0G Tryz.prog glX 83 [(chC 1 3),iv 1] R:=K0_by hmX hcU 3000 Tryz.func83 (p:=R (iv 5)) (by kernel_rfl) h
theorem dir83_21_2 {R:V→Prop} (h:R (iv 2)):K0G Tryz.prog glX 83 [(chC 1 3),iv 2] R:=K0_by hmX hcU 3000 Tryz.func83 (p:=R (iv 2)) (by kernel_rfl) h
theorem dir83_21_3 {R:V→Prop} (h:R (iv 3)):K0G Tryz.prog glX 83 [(chC 1 3),iv 3] R:=K0_by hmX hcU 3000 Tryz.func83 (p:=R (iv 3)) (by kernel_rfl) h
theorem dir83_21_4 {R:V→Prop} (h:R (iv 1)):K0G Tryz.prog glX 83 [(chC 1 3),iv 4] R:=K0_by hmX hcU 3000 Tryz.func83 (p:=R (iv 1)) (by kernel_rfl) h
theorem dir83_21_5 {R:V→Prop} (h:R (iv 0)):K0G Tryz.prog glX 83 [(chC 1 3),iv 5] R:=K0_by hmX hcU 3000 Tryz.func83 (p:=R (iv 0)) (by kernel_rfl) h
theorem dir83_22_0 {R:V→Prop} (h:R (iv 2)):K0G Tryz.prog glX 83 [(chC 2 3),iv 0] R:=K0_by hmX hcU 3000 Tryz.func83 (p:=R (iv 2)) (by kernel_rfl) h
theorem dir83_22_1 {R:V→Prop} (h:R (iv 3)):K0G Tryz.prog glX 83 [(chC 2 3),iv 1] R:=K0_by hmX hcU 3000 Tryz.func83 (p:=R (iv 3)) (by kernel_rfl) h
theorem dir83_22_2 {R:V→Prop} (h:R (iv 5)):K0G Tryz.prog glX 83 [(chC 2 3),iv 2] R:=K0_by hmX hcU 3000 Tryz.func83 (p:=R (iv 5)) (by kernel_rfl) h
theorem dir83_22_3 {R:V→Prop} (h:R (iv 4)):K0G Tryz.prog glX 83 [(chC 2 3),iv 3] R:=K0_by hmX hcU 3000 Tryz.func83 (p:=R (iv 4)) (by kernel_rfl) h
theorem dir83_22_4 {R:V→Prop} (h:R (iv 1)):K0G Tryz.prog glX 83 [(chC 2 3),iv 4] R:=K0_by hmX hcU 3000 Tryz.func83 (p:=R (iv 1)) (by kernel_rfl) h
theorem dir83_22_5 {R:V→Prop} (h:R (iv 0)):K0G Tryz.prog glX 83 [(chC 2 3),iv 5] R:=K0_by hmX hcU 3000 Tryz.func83 (p:=R (iv 0)) (by kernel_rfl) h
theorem dir83_23_0 {R:V→Prop} (h:R (iv 5)):K0G Tryz.prog glX 83 [(chC 3 3),iv 0] R:=K0_by hmX hcU 3000 Tryz.func83 (p:=R (iv 5)) (by kernel_rfl) h
theorem dir83_23_1 {R:V→Prop} (h:R (iv 4)):K0G Tryz.prog glX 83 [(chC 3 3),iv 1] R:=K0_by hmX hcU 3000 Tryz.func83 (p:=R (iv 4)) (by kernel_rfl) h
theorem dir83_23_2 {R:V→Prop} (h:R (iv 3)):K0G Tryz.prog glX 83 [(chC 3 3),iv 2] R:=K0_by hmX hcU 3000 Tryz.func83 (p:=R (iv 3)) (by kernel_rfl) h
theorem dir83_23_3 {R:V→Prop} (h:R (iv 2)):K0G Tryz.prog glX 83 [(chC 3 3),iv 3] R:=K0_by hmX hcU 3000 Tryz.func83 (p:=R (iv 2)) (by kernel_rfl) h
theorem dir83_23_4 {R:V→Prop} (h:R (iv 1)):K0G Tryz.prog glX 83 [(chC 3 3),iv 4] R:=K0_by hmX hcU 3000 Tryz.func83 (p:=R (iv 1)) (by kernel_rfl) h
theorem dir83_23_5 {R:V→Prop} (h:R (iv 0)):K0G Tryz.prog glX 83 [(chC 3 3),iv 5] R:=K0_by hmX hcU 3000 Tryz.func83 (p:=R (iv 0)) (by kernel_rfl) h
theorem dir83_0 {R:V→Prop} : ∀ d:Nat,d<6→R (iv (pt 0 (d:Int)))→K0G Tryz.prog glX 83 [(chA 0),iv (d:Int)] R
  | 0,_=>fun h=>dir83_0_0 h
  | 1,_=>fun h=>dir83_0_1 h
  | 2,_=>fun h=>dir83_0_2 h
  | 3,_=>fun h=>dir83_0_3 h
  | 4,_=>fun h=>dir83_0_4 h
  | 5,_=>fun h=>dir83_0_5 h
  | d+6,h=>absurd h (by omega)
theorem dir83_1 {R:V→Prop} : ∀ d:Nat,d<6→R (iv (pt 1 (d:Int)))→K0G Tryz.prog glX 83 [(chA 1),iv (d:Int)] R
  | 0,_=>fun h=>dir83_1_0 h
  | 1,_=>fun h=>dir83_1_1 h
  | 2,_=>fun h=>dir83_1_2 h
  | 3,_=>fun h=>dir83_1_3 h
  | 4,_=>fun h=>dir83_1_4 h
  | 5,_=>fun h=>dir83_1_5 h
  | d+6,h=>absurd h (by omega)
theorem dir83_2 {R:V→Prop} : ∀ d:Nat,d<6→R (iv (pt 2 (d:Int)))→K0G Tryz.prog glX 83 [(chA 2),iv (d:Int)] R
  | 0,_=>fun h=>dir83_2_0 h
  | 1,_=>fun h=>dir83_2_1 h
  | 2,_=>fun h=>dir83_2_2 h
  | 3,_=>fun h=>dir83_2_3 h
  | 4,_=>fun h=>dir83_2_4 h
  | 5,_=>fun h=>dir83_2_5 h
  | d+6,h=>absurd h (by omega)
theorem dir83_3 {R:V→Prop} : ∀ d:Nat,d<6→R (iv (pt 3 (d:Int)))→K0G Tryz.prog glX 83 [(chA 3),iv (d:Int)] R
  | 0,_=>fun h=>dir83_3_0 h
  | 1,_=>fun h=>dir83_3_1 h
  | 2,_=>fun h=>dir83_3_2 h
  | 3,_=>fun h=>dir83_3_3 h
  | 4,_=>fun h=>dir83_3_4 h
  | 5,_=>fun h=>dir83_3_5 h
  | d+6,h=>absurd h (by omega)
theorem dir83_4 {R:V→Prop} : ∀ d:Nat,d<6→R (iv (pt 4 (d:Int)))→K0G Tryz.prog glX 83 [(chB 0 1),iv (d:Int)] R
  | 0,_=>fun h=>dir83_4_0 h
  | 1,_=>fun h=>dir83_4_1 h
  | 2,_=>fun h=>dir83_4_2 h
  | 3,_=>fun h=>dir83_4_3 h
  | 4,_=>fun h=>dir83_4_4 h
  | 5,_=>fun h=>dir83_4_5 h
  | d+6,h=>absurd h (by omega)
theorem dir83_5 {R:V→Prop} : ∀ d:Nat,d<6→R (iv (pt 5 (d:Int)))→K0G Tryz.prog glX 83 [(chB 1 1),iv (d:Int)] R
  | 0,_=>fun h=>dir83_5_0 h
  | 1,_=>fun h=>dir83_5_1 h
  | 2,_=>fun h=>dir83_5_2 h
  | 3,_=>fun h=>dir83_5_3 h
  | 4,_=>fun h=>dir83_5_4 h
  | 5,_=>fun h=>dir83_5_5 h
  | d+6,h=>absurd h (by omega)
theorem dir83_6 {R:V→Prop} : ∀ d:Nat,d<6→R (iv (pt 6 (d:Int)))→K0G Tryz.prog glX 83 [(chB 2 1),iv (d:Int)] R
  | 0,_=>fun h=>dir83_6_0 h
  | 1,_=>fun h=>dir83_6_1 h
  | 2,_=>fun h=>dir83_6_2 h
  | 3,_=>fun h=>dir83_6_3 h
  | 4,_=>fun h=>dir83_6_4 h
  | 5,_=>fun h=>dir83_6_5 h
  | d+6,h=>absurd h (by omega)
theorem dir83_7 {R:V→Prop} : ∀ d:Nat,d<6→R (iv (pt 7 (d:Int)))→K0G Tryz.prog glX 83 [(chB 3 1),iv (d:Int)] R
  | 0,_=>fun h=>dir83_7_0 h
  | 1,_=>fun h=>dir83_7_1 h
  | 2,_=>fun h=>dir83_7_2 h
  | 3,_=>fun h=>dir83_7_3 h
  | 4,_=>fun h=>dir83_7_4 h
  | 5,_=>fun h=>dir83_7_5 h
  | d+6,h=>absurd h (by omega)
theorem dir83_8 {R:V→Prop} : ∀ d:Nat,d<6→R (iv (pt 8 (d:Int)))→K0G Tryz.prog glX 83 [(chB 0 2),iv (d:Int)] R
  | 0,_=>fun h=>dir83_8_0 h
  | 1,_=>fun h=>dir83_8_1 h
  | 2,_=>fun h=>dir83_8_2 h
  | 3,_=>fun h=>dir83_8_3 h
  | 4,_=>fun h=>dir83_8_4 h
  | 5,_=>fun h=>dir83_8_5 h
  | d+6,h=>absurd h (by omega)
theorem dir83_9 {R:V→Prop} : ∀ d:Nat,d<6→R (iv (pt 9 (d:Int)))→K0G Tryz.prog glX 83 [(chB 1 2),iv (d:Int)] R
  | 0,_=>fun h=>dir83_9_0 h
  | 1,_=>fun h=>dir83_9_1 h
  | 2,_=>fun h=>dir83_9_2 h
  | 3,_=>fun h=>dir83_9_3 h
  | 4,_=>fun h=>dir83_9_4 h
  | 5,_=>fun h=>dir83_9_5 h
  | d+6,h=>absurd h (by omega)
theorem dir83_10 {R:V→Prop} : ∀ d:Nat,d<6→R (iv (pt 10 (d:Int)))→K0G Tryz.prog glX 83 [(chB 2 2),iv (d:Int)] R
  | 0,_=>fun h=>dir83_10_0 h
  | 1,_=>fun h=>dir83_10_1 h
  | 2,_=>fun h=>dir83_10_2 h
  | 3,_=>fun h=>dir83_10_3 h
  | 4,_=>fun h=>dir83_10_4 h
  | 5,_=>fun h=>dir83_10_5 h
  | d+6,h=>absurd h (by omega)
theorem dir83_11 {R:V→Prop} : ∀ d:Nat,d<6→R (iv (pt 11 (d:Int)))→K0G Tryz.prog glX 83 [(chB 3 2),iv (d:Int)] R
  | 0,_=>fun h=>dir83_11_0 h
  | 1,_=>fun h=>dir83_11_1 h
  | 2,_=>fun h=>dir83_11_2 h
  | 3,_=>fun h=>dir83_11_3 h
  | 4,_=>fun h=>dir83_11_4 h
  | 5,_=>fun h=>dir83_11_5 h
  | d+6,h=>absurd h (by omega)
theorem dir83_12 {R:V→Prop} : ∀ d:Nat,d<6→R (iv (pt 12 (d:Int)))→K0G Tryz.prog glX 83 [(chB 0 3),iv (d:Int)] R
  | 0,_=>fun h=>dir83_12_0 h
  | 1,_=>fun h=>dir83_12_1 h
  | 2,_=>fun h=>dir83_12_2 h
  | 3,_=>fun h=>dir83_12_3 h
  | 4,_=>fun h=>dir83_12_4 h
  | 5,_=>fun h=>dir83_12_5 h
  | d+6,h=>absurd h (by omega)
theorem dir83_13 {R:V→Prop} : ∀ d:Nat,d<6→R (iv (pt 13 (d:Int)))→K0G Tryz.prog glX 83 [(chB 1 3),iv (d:Int)] R
  | 0,_=>fun h=>dir83_13_0 h
  | 1,_=>fun h=>dir83_13_1 h
  | 2,_=>fun h=>dir83_13_2 h
  | 3,_=>fun h=>dir83_13_3 h
  | 4,_=>fun h=>dir83_13_4 h
  | 5,_=>fun h=>dir83_13_5 h
  | d+6,h=>absurd h (by omega)
theorem dir83_14 {R:V→Prop} : ∀ d:Nat,d<6→R (iv (pt 14 (d:Int)))→K0G Tryz.prog glX 83 [(chB 2 3),iv (d:Int)] R
  | 0,_=>fun h=>dir83_14_0 h
  | 1,_=>fun h=>dir83_14_1 h
  | 2,_=>fun h=>dir83_14_2 h
  | 3,_=>fun h=>dir83_14_3 h
  | 4,_=>fun h=>dir83_14_4 h
  | 5,_=>fun h=>dir83_14_5 h
  | d+6,h=>absurd h (by omega)
theorem dir83_15 {R:V→Prop} : ∀ d:Nat,d<6→R (iv (pt 15 (d:Int)))→K0G Tryz.prog glX 83 [(chB 3 3),iv (d:Int)] R
  | 0,_=>fun h=>dir83_15_0 h
  | 1,_=>fun h=>dir83_15_1 h
  | 2,_=>fun h=>dir83_15_2 h
  | 3,_=>fun h=>dir83_15_3 h
  | 4,_=>fun h=>dir83_15_4 h
  | 5,_=>fun h=>dir83_15_5 h
  | d+6,h=>absurd h (by omega)
theorem dir83_16 {R:V→Prop} : ∀ d:Nat,d<6→R (iv (pt 16 (d:Int)))→K0G Tryz.prog glX 83 [(chC 0 1),iv (d:Int)] R
  | 0,_=>fun h=>dir83_16_0 h
  | 1,_=>fun h=>dir83_16_1 h
  | 2,_=>fun h=>dir83_16_2 h
  | 3,_=>fun h=>dir83_16_3 h
  | 4,_=>fun h=>dir83_16_4 h
  | 5,_=>fun h=>dir83_16_5 h
  | d+6,h=>absurd h (by omega)
theorem dir83_17 {R:V→Prop} : ∀ d:Nat,d<6→R (iv (pt 17 (d:Int)))→K0G Tryz.prog glX 83 [(chC 1 1),iv (d:Int)] R
  | 0,_=>fun h=>dir83_17_0 h
  | 1,_=>fun h=>dir83_17_1 h
  | 2,_=>fun h=>dir83_17_2 h
  | 3,_=>fun h=>dir83_17_3 h
  | 4,_=>fun h=>dir83_17_4 h
  | 5,_=>fun h=>dir83_17_5 h
  | d+6,h=>absurd h (by omega)
theorem dir83_18 {R:V→Prop} : ∀ d:Nat,d<6→R (iv (pt 18 (d:Int)))→K0G Tryz.prog glX 83 [(chC 2 1),iv (d:Int)] R
  | 0,_=>fun h=>dir83_18_0 h
  | 1,_=>fun h=>dir83_18_1 h
  | 2,_=>fun h=>dir83_18_2 h
  | 3,_=>fun h=>dir83_18_3 h
  | 4,_=>fun h=>dir83_18_4 h
  | 5,_=>fun h=>dir83_18_5 h
  | d+6,h=>absurd h (by omega)
theorem dir83_19 {R:V→Prop} : ∀ d:Nat,d<6→R (iv (pt 19 (d:Int)))→K0G Tryz.prog glX 83 [(chC 3 1),iv (d:Int)] R
  | 0,_=>fun h=>dir83_19_0 h
  | 1,_=>fun h=>dir83_19_1 h
  | 2,_=>fun h=>dir83_19_2 h
  | 3,_=>fun h=>dir83_19_3 h
  | 4,_=>fun h=>dir83_19_4 h
  | 5,_=>fun h=>dir83_19_5 h
  | d+6,h=>absurd h (by omega)
theorem dir83_20 {R:V→Prop} : ∀ d:Nat,d<6→R (iv (pt 20 (d:Int)))→K0G Tryz.prog glX 83 [(chC 0 3),iv (d:Int)] R
  | 0,_=>fun h=>dir83_20_0 h
  | 1,_=>fun h=>dir83_20_1 h
  | 2,_=>fun h=>dir83_20_2 h
  | 3,_=>fun h=>dir83_20_3 h
  | 4,_=>fun h=>dir83_20_4 h
  | 5,_=>fun h=>dir83_20_5 h
  | d+6,h=>absurd h (by omega)
theorem dir83_21 {R:V→Prop} : ∀ d:Nat,d<6→R (iv (pt 21 (d:Int)))→K0G Tryz.prog glX 83 [(chC 1 3),iv (d:Int)] R
  | 0,_=>fun h=>dir83_21_0 h
  | 1,_=>fun h=>dir83_21_1 h
  | 2,_=>fun h=>dir83_21_2 h
  | 3,_=>fun h=>dir83_21_3 h
  | 4,_=>fun h=>dir83_21_4 h
  | 5,_=>fun h=>dir83_21_5 h
  | d+6,h=>absurd h (by omega)
theorem dir83_22 {R:V→Prop} : ∀ d:Nat,d<6→R (iv (pt 22 (d:Int)))→K0G Tryz.prog glX 83 [(chC 2 3),iv (d:Int)] R
  | 0,_=>fun h=>dir83_22_0 h
  | 1,_=>fun h=>dir83_22_1 h
  | 2,_=>fun h=>dir83_22_2 h
  | 3,_=>fun h=>dir83_22_3 h
  | 4,_=>fun h=>dir83_22_4 h
  | 5,_=>fun h=>dir83_22_5 h
  | d+6,h=>absurd h (by omega)
theorem dir83_23 {R:V→Prop} : ∀ d:Nat,d<6→R (iv (pt 23 (d:Int)))→K0G Tryz.prog glX 83 [(chC 3 3),iv (d:Int)] R
  | 0,_=>fun h=>dir83_23_0 h
  | 1,_=>fun h=>dir83_23_1 h
  | 2,_=>fun h=>dir83_23_2 h
  | 3,_=>fun h=>dir83_23_3 h
  | 4,_=>fun h=>dir83_23_4 h
  | 5,_=>fun h=>dir83_23_5 h
  | d+6,h=>absurd h (by omega)
theorem dir83 {R:V→Prop} {d:Nat} (hd:d<6) : ∀ n:Nat,n<24→R (iv (pt n (d:Int)))→K0G Tryz.prog glX 83 [ch n,iv (d:Int)] R
  | 0,_=>fun h=>dir83_0 d hd h
  | 1,_=>fun h=>dir83_1 d hd h
  | 2,_=>fun h=>dir83_2 d hd h
  | 3,_=>fun h=>dir83_3 d hd h
  | 4,_=>fun h=>dir83_4 d hd h
  | 5,_=>fun h=>dir83_5 d hd h
  | 6,_=>fun h=>dir83_6 d hd h
  | 7,_=>fun h=>dir83_7 d hd h
  | 8,_=>fun h=>dir83_8 d hd h
  | 9,_=>fun h=>dir83_9 d hd h
  | 10,_=>fun h=>dir83_10 d hd h
  | 11,_=>fun h=>dir83_11 d hd h
  | 12,_=>fun h=>dir83_12 d hd h
  | 13,_=>fun h=>dir83_13 d hd h
  | 14,_=>fun h=>dir83_14 d hd h
  | 15,_=>fun h=>dir83_15 d hd h
  | 16,_=>fun h=>dir83_16 d hd h
  | 17,_=>fun h=>dir83_17 d hd h
  | 18,_=>fun h=>dir83_18 d hd h
  | 19,_=>fun h=>dir83_19 d hd h
  | 20,_=>fun h=>dir83_20 d hd h
  | 21,_=>fun h=>dir83_21 d hd h
  | 22,_=>fun h=>dir83_22 d hd h
  | 23,_=>fun h=>dir83_23 d hd h
  | n+24,h=>absurd h (by omega)
end Go.Proofs.YtbionhgjgcpogaaGreatDoor
