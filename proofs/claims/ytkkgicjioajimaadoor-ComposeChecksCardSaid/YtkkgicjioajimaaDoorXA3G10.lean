/- A part of the proof. -/
import Derived.Test.YtkkgicjioajimaaDoorProg
import Derived.Test.YtkkgicjioajimaaDoorXA3G9
namespace Go.Proofs.YtkkgicjioajimaaDoor
open Go Go.Proofs.YtkkgicjioajimaaDoor.Clean
set_option linter.unusedVariables false
set_option maxRecDepth 100000
abbrev C3:=Int×Int×Int
def cv (t:C3):List V:=[iv t.1,iv t.2.1,iv t.2.2]
def cel (w d:Int) (i:Nat):C3:=((i:Int).tmod w,((i:Int).tdiv w).tmod d,((i:Int).tdiv w).tdiv d)
def fi (c:List Nat) (k:Nat):List Nat:=(List.range k).filter fun i=>c.getD i 0 != 0
def celL (w d:Int) (c:List Nat) (k:Nat):List C3:=(fi c k).map (cel w d)
def fullR (L:List C3):List (List V):=L.map cv
def numE (L:List C3):List (V×V):=L.zipIdx.map fun p=>(V.agg (cv p.1),iv (p.2:Int))
def u16v (n:Nat):V := .raw (.int .u16 (n:Int))
def zr10:List V:=[iv 0,iv 0,iv 0,nilS,nilS,nilS,.raw (.map none),.raw (.map none),nilS,nilS]
def kpB:FuncId→Nat→Option (List Tmp):=slotsOf [(55,0,[4,7,26,27,28,3999999]),(55,2,[4,7,79,80,4999999,4500005,5000007,1000007,6000000]),(84,0,[0,1,15,16,4999999,4500005,5000000,1000007,6000000]),(84,2,[0,1,4,15,16,19,20,4999999,4500005,5000000,1000007,6000000]),(104,0,[0,3,7,8,9,58,59]),(105,2,[2,5,6,15,16,6000000]),(102,0,[0,3,6000000]),(85,0,[0,1,15,16,4999999,4500005,5000000,1000007,6000000])]
def moB:FuncId→Nat:=fun f=>bif inN [104,105] f then 5 else 0
def dyB:FuncId→List TypeDesc:=fun f=>bif Nat.beq f 104 then [.int .u16,.bool] else bif Nat.beq f 105 then [.int .u16] else []
noncomputable def cfB:Cfg:={ cfgD Tryd.prog glX moB dyB (inN [84,85]) kpB with fz:=fun f t=>Nat.beq f 84&&Nat.beq t 1000063,clean:=fun g => !inN [84,85] g }
noncomputable def cfF:Cfg:={ cfgD Tryd.prog glX moB dyB (inN [99,118,76,102,106]) kpB with clean:=fun g => !inN [102] g }
noncomputable def sh55n (w d h:Int) (u:Nat) (c:List Nat) (l:List Pt) (k:Nat):St:=⟨mkT [(4,V.ptr (Id.p 0) 0 0),(7,V.ptr (Id.p 1) 0 0),(26,V.lst u (nb c)),(27,iv ((nb c).length:Int)),(28,iv (k:Int))],⟨[(0,O.rows 10 true [zr10]),(1,O.rows 10 false [[iv w,iv d,iv h,V.lst u (nb c),V.lst 4 (ptl l),nilS,V.mp (Id.p 2),V.mp (Id.p 3),nilS,nilS]]),(2,O.mp []),(3,O.mp [])],4,[]⟩⟩
noncomputable def sh55s (w d h:Int) (u:Nat) (c:List Nat) (l:List Pt) (L:List C3) (k:Nat):St:=⟨mkT [(4,V.ptr (Id.p 0) 0 0),(7,V.ptr (Id.p 1) 0 0),(26,V.lst u (nb c)),(27,iv ((nb c).length:Int)),(28,iv (k:Int))],⟨[(0,O.rows 10 true [zr10]),(1,O.rows 10 false [[iv w,iv d,iv h,V.lst u (nb c),V.lst 4 (ptl l),V.sl (Id.p 2) 0 L.length,V.mp (Id.p 3),V.mp (Id.p 4),nilS,nilS]]),(2,O.rows 3 true (fullR L)),(3,O.mp (numE L)),(4,O.mp [])],5,[]⟩⟩
def mbW (x:Int×Int×Int×Int):List V:=[iv x.1,iv x.2.1,iv x.2.2.1,iv x.2.2.2]
def wlR (ws:List (Int×Int×Int×Int)):List (List V):=ws.map mbW
def u8i (n:Int):V := .raw (.int .u8 n)
abbrev WL:=Int×Int×Int×Int
noncomputable def sh55bn (w d h:Int) (u:Nat) (c:List Nat) (l:List Pt) (L:List C3) (P:List (V×V)) (r:List (List V)) (ms:List (Option (List (List V)))) (k:Nat):St:=⟨mkT [(4,V.ptr (Id.p 0) 0 0),(7,V.ptr (Id.p 1) 0 0),(79,iv (L.length:Int)),(80,iv (k:Int))],⟨[(0,O.rows 10 true [zr10]),(1,O.rows 10 false [[iv w,iv d,iv h,V.lst u (nb c),V.lst 4 (ptl l),V.sl (Id.p 2) 0 L.length,V.mp (Id.p 3),V.mp (Id.p 4),V.sl (Id.p 5) 0 L.length,nilS]]),(2,O.rows 3 true (fullR L)),(3,O.mp (numE L)),(4,O.mp P),(5,O.rows 1 false r)],6,[(0,⟨7,ms⟩)]⟩⟩
noncomputable def sh84an (w d h:Int) (u:Nat) (c:List Nat) (l:List Pt) (L:List C3) (P:List (V×V)) (r:List (List V)) (ms:List (Option (List (List V)))) (k i:Nat):St:=⟨mkT [(0,V.ptr (Id.p 1) 0 0),(1,iv (k:Int)),(15,iv ((ptl l).length:Int)),(16,iv (i:Int))],⟨[(0,O.rows 10 true [zr10]),(1,O.rows 10 false [[iv w,iv d,iv h,V.lst u (nb c),V.lst 4 (ptl l),V.sl (Id.p 2) 0 L.length,V.mp (Id.p 3),V.mp (Id.p 4),V.sl (Id.p 5) 0 L.length,nilS]]),(2,O.rows 3 true (fullR L)),(3,O.mp (numE L)),(4,O.mp P),(5,O.rows 1 false r)],6,[(0,⟨7,ms⟩)]⟩⟩
noncomputable def sh84bn (w d h:Int) (u:Nat) (c:List Nat) (l:List Pt) (L:List C3) (P:List (V×V)) (r:List (List V)) (ms:List (Option (List (List V)))) (k i j:Nat):St:=⟨mkT [(0,V.ptr (Id.p 1) 0 0),(1,iv (k:Int)),(4,iv (i:Int)),(15,iv ((ptl l).length:Int)),(16,iv (i:Int)),(19,V.agg [bv false,bv true]),(20,iv (j:Int))],⟨[(0,O.rows 10 true [zr10]),(1,O.rows 10 false [[iv w,iv d,iv h,V.lst u (nb c),V.lst 4 (ptl l),V.sl (Id.p 2) 0 L.length,V.mp (Id.p 3),V.mp (Id.p 4),V.sl (Id.p 5) 0 L.length,nilS]]),(2,O.rows 3 true (fullR L)),(3,O.mp (numE L)),(4,O.mp P),(5,O.rows 1 false r)],6,[(0,⟨7,ms⟩)]⟩⟩
noncomputable def sh85n (w d h:Int) (u:Nat) (c:List Nat) (l:List Pt) (L:List C3) (P:List (V×V)) (r:List (List V)) (ms:List (Option (List (List V)))) (k j:Nat):St:=⟨mkT [(0,V.ptr (Id.p 1) 0 0),(1,iv (k:Int)),(15,V.agg [iv 1,iv 0,iv 0,iv 0,iv 1,iv 0]),(16,iv (j:Int))],⟨[(0,O.rows 10 true [zr10]),(1,O.rows 10 false [[iv w,iv d,iv h,V.lst u (nb c),V.lst 4 (ptl l),V.sl (Id.p 2) 0 L.length,V.mp (Id.p 3),V.mp (Id.p 4),V.sl (Id.p 5) 0 L.length,nilS]]),(2,O.rows 3 true (fullR L)),(3,O.mp (numE L)),(4,O.mp P),(5,O.rows 1 false r)],6,[(0,⟨7,ms⟩)]⟩⟩
noncomputable def sh55bs (w d h:Int) (u:Nat) (c:List Nat) (l:List Pt) (L:List C3) (P:List (V×V)) (r:List (List V)) (ms:List (Option (List (List V)))) (ws:List WL) (k:Nat):St:=⟨mkT [(4,V.ptr (Id.p 0) 0 0),(7,V.ptr (Id.p 1) 0 0),(79,iv (L.length:Int)),(80,iv (k:Int))],⟨[(0,O.rows 10 true [zr10]),(1,O.rows 10 false [[iv w,iv d,iv h,V.lst u (nb c),V.lst 4 (ptl l),V.sl (Id.p 2) 0 L.length,V.mp (Id.p 3),V.mp (Id.p 4),V.sl (Id.p 5) 0 L.length,V.sl (Id.p 6) 0 ws.length]]),(2,O.rows 3 true (fullR L)),(3,O.mp (numE L)),(4,O.mp P),(5,O.rows 1 false r),(6,O.rows 4 true (wlR ws))],7,[(0,⟨7,ms⟩)]⟩⟩
noncomputable def sh84as (w d h:Int) (u:Nat) (c:List Nat) (l:List Pt) (L:List C3) (P:List (V×V)) (r:List (List V)) (ms:List (Option (List (List V)))) (ws:List WL) (k i:Nat):St:=⟨mkT [(0,V.ptr (Id.p 1) 0 0),(1,iv (k:Int)),(15,iv ((ptl l).length:Int)),(16,iv (i:Int))],⟨[(0,O.rows 10 true [zr10]),(1,O.rows 10 false [[iv w,iv d,iv h,V.lst u (nb c),V.lst 4 (ptl l),V.sl (Id.p 2) 0 L.length,V.mp (Id.p 3),V.mp (Id.p 4),V.sl (Id.p 5) 0 L.length,V.sl (Id.p 6) 0 ws.length]]),(2,O.rows 3 true (fullR L)),(3,O.mp (numE L)),(4,O.mp P),(5,O.rows 1 false r),(6,O.rows 4 true (wlR ws))],7,[(0,⟨7,ms⟩)]⟩⟩
noncomputable def sh84bs (w d h:Int) (u:Nat) (c:List Nat) (l:List Pt) (L:List C3) (P:List (V×V)) (r:List (List V)) (ms:List (Option (List (List V)))) (ws:List WL) (k i j:Nat):St:=⟨mkT [(0,V.ptr (Id.p 1) 0 0),(1,iv (k:Int)),(4,iv (i:Int)),(15,iv ((ptl l).length:Int)),(16,iv (i:Int)),(19,V.agg [bv false,bv true]),(20,iv (j:Int))],⟨[(0,O.rows 10 true [zr10]),(1,O.rows 10 false [[iv w,iv d,iv h,V.lst u (nb c),V.lst 4 (ptl l),V.sl (Id.p 2) 0 L.length,V.mp (Id.p 3),V.mp (Id.p 4),V.sl (Id.p 5) 0 L.length,V.sl (Id.p 6) 0 ws.length]]),(2,O.rows 3 true (fullR L)),(3,O.mp (numE L)),(4,O.mp P),(5,O.rows 1 false r),(6,O.rows 4 true (wlR ws))],7,[(0,⟨7,ms⟩)]⟩⟩
noncomputable def sh85s (w d h:Int) (u:Nat) (c:List Nat) (l:List Pt) (L:List C3) (P:List (V×V)) (r:List (List V)) (ms:List (Option (List (List V)))) (ws:List WL) (k j:Nat):St:=⟨mkT [(0,V.ptr (Id.p 1) 0 0),(1,iv (k:Int)),(15,V.agg [iv 1,iv 0,iv 0,iv 0,iv 1,iv 0]),(16,iv (j:Int))],⟨[(0,O.rows 10 true [zr10]),(1,O.rows 10 false [[iv w,iv d,iv h,V.lst u (nb c),V.lst 4 (ptl l),V.sl (Id.p 2) 0 L.length,V.mp (Id.p 3),V.mp (Id.p 4),V.sl (Id.p 5) 0 L.length,V.sl (Id.p 6) 0 ws.length]]),(2,O.rows 3 true (fullR L)),(3,O.mp (numE L)),(4,O.mp P),(5,O.rows 1 false r),(6,O.rows 4 true (wlR ws))],7,[(0,⟨7,ms⟩)]⟩⟩
def glT (tb:List V):Nat→Option (List V):=fun g=>match g with | 0=>some tb | _=>none
noncomputable def cfT (tb:List V):Cfg:={ cfgM Tryd.prog (glT tb) (fun _=>0) (fun _=>none) (inN [106]) kpB with fz:=fun f t=>Nat.beq f 106&&Nat.beq t 7000011 }
set_option linter.unusedSimpArgs false
set_option maxRecDepth 10000
theorem wrap_u16 (n:Int):IntKind.u16.wrap n=n % 65536:=by simp [IntKind.wrap,IntKind.signed,IntKind.bits]
theorem wrap_u32 (n:Int):IntKind.u32.wrap n=n % 4294967296:=by simp [IntKind.wrap,IntKind.signed,IntKind.bits]
theorem bv16 {s:Nat} (h:s<65536):(BitVec.ofInt 16 (s:Int)).toNat=s:=by
 rw [BitVec.ofInt_natCast,BitVec.toNat_ofNat]; exact Nat.mod_eq_of_lt h
theorem hcF:cfF.ok Tryd.prog:=by
 have h:(cfgD Tryd.prog glX moB dyB (inN [99,118,76,102,106]) kpB).ok Tryd.prog:=cfgD_ok
 exact ⟨h.1,h.2⟩
theorem hcT (tb:List V):(cfT tb).ok Tryd.prog:=by
 have h:(cfgM Tryd.prog (glT tb) (fun _=>0) (fun _=>none) (inN [106]) kpB).ok Tryd.prog:=cfgM_ok
 exact ⟨h.1,h.2⟩
def lowF:Nat→Nat→Nat
 | 0,_=>0
 | f+1,s=>if s % 2=1 then 0 else lowF f (s / 2)+1
def lowB (s:Nat):Nat:=lowF 16 s
theorem lowF_lt : ∀ f s,s≠0→s<2 ^ f→lowF f s<f∧s.testBit (lowF f s)=true
 | 0,s,h0,h=>by simp at h; exact (h0 h).elim
 | f+1,s,h0,h=>by
  unfold lowF
  split
  ·rename_i hs
   refine ⟨by omega,?_⟩
   rw [Nat.testBit_zero]; simp [hs]
  ·rename_i hs
   have:=lowF_lt f (s / 2) (by omega) (by rw [Nat.pow_succ] at h; omega)
   refine ⟨by omega,?_⟩
   rw [Nat.testBit_succ]
   exact this.2
theorem lowF_min : ∀ f s j,j<lowF f s→s.testBit j=false
 | 0,s,j,h=>by simp [lowF] at h
 | f+1,s,j,h=>by
  unfold lowF at h
  split at h
  ·omega
  ·rename_i hs
   cases j with
   | zero=>rw [Nat.testBit_zero]; simp; omega
   | succ j =>
    rw [Nat.testBit_succ]
    exact lowF_min f (s / 2) j (by omega)
theorem lowB_lt {s:Nat} (h0:s≠0) (h:s<65536):lowB s<16∧s.testBit (lowB s)=true:=lowF_lt 16 s h0 h
theorem lowB_min {s j:Nat} (h:j<lowB s):s.testBit j=false:=lowF_min 16 s j h
def tabN:List Nat:=[0,1,28,2,29,14,24,3,30,22,20,15,25,17,4,8,31,27,13,23,21,19,16,7,26,12,18,6,11,5,10,9]
def idxT (s:Nat):Nat:=(s &&& (65536 - s)) * 125613361 % 4294967296 / 134217728
def chkT (s:Nat):Bool:=Nat.beq s 0 || (tabN[idxT s]? == some (lowB s))
theorem chk_all:(List.range 256).all (fun a=>(List.range 256).all fun b=>chkT (256 * a+b))=true:=by decide +kernel
theorem chk_ok {s:Nat} (h0:s≠0) (h:s<65536):tabN[idxT s]? = some (lowB s):=by
 have h1:=List.all_eq_true.1 chk_all (s / 256) (List.mem_range.2 (by omega))
 have h2:=List.all_eq_true.1 h1 (s % 256) (List.mem_range.2 (by omega))
 rw [show 256 * (s / 256)+s % 256=s by omega] at h2
 unfold chkT at h2
 rw [Bool.or_eq_true] at h2
 rcases h2 with h2 | h2
 ·exact (h0 (Nat.eq_of_beq_eq_true h2)).elim
 ·simpa using h2
theorem tabC_at {i n:Nat} (h:tabN[i]? = some n):tabC[0+i * 1]? = some (u8v (n:Int)):=by
 have:tabC=tabN.map (fun (n:Nat)=>u8v (n:Int)):=rfl
 rw [this,Nat.zero_add,Nat.mul_one,List.getElem?_map,h]
 rfl
theorem first94T (tb:List V) (htb:tb=tabC) {s:Nat} (hs:s<65536) {R:V→Prop} (h:R (iv (lowB s:Int))):K0G Tryd.prog (glT tb) 94 [u16v s] R:=by
 refine K0_of_WY0 hmX (hcT tb) 3000 Tryd.func94 (see (p:=ifB ((↑s:Int)==(0:Int)) (R (iv (16:Int))) (genI (V.raw (Value.int IntKind.u32 ((IntKind.u32.wrap (IntKind.u32.wrap (IntKind.u16.wrap (↑(BitVec.ofInt 16 (↑s:Int) &&& BitVec.ofInt 16 (IntKind.u16.wrap ((0:Int) - (↑s:Int)))).toNat:Int)) * (125613361:Int))).fdiv ((2:Int) ^ min (Int.toNat (27:Int)) 32)))) fun kk n=>onNat n fun m=>need (m<32) (onSome tb[0+m * 1]? fun v=>onIntK IntKind.u8 v fun n=>R (iv (IntKind.i64.wrap n))))) (by kernel_rfl) ?_)
 refine ifB_mk (fun hb=>?_) (fun hb=>?_)
 ·have h0:s=0:=by have:=eq_of_beq hb; omega
  subst h0
  exact h
 ·have h0:s≠0:=by rintro rfl; simp at hb
  have h1:IntKind.u16.wrap ((0:Int) - (s:Int))=((65536 - s:Nat):Int):=by rw [wrap_u16]; omega
  have hlt:s &&& (65536 - s)<65536:=Nat.lt_of_le_of_lt Nat.and_le_left hs
  have e:((IntKind.u32.wrap (IntKind.u32.wrap (IntKind.u16.wrap ((BitVec.ofInt 16 (s:Int) &&& BitVec.ofInt 16 (IntKind.u16.wrap ((0:Int) - (s:Int)))).toNat:Int)) * (125613361:Int))).fdiv ((2:Int) ^ min (Int.toNat (27:Int)) 32))=((idxT s:Nat):Int):=by
   rw [h1,BitVec.toNat_and,bv16 hs,bv16 (by omega),wrap_u16,wrap_u32,wrap_u32]
   rw [show ((2:Int) ^ min (Int.toNat (27:Int)) 32)=134217728 by decide]
   rw [Int.fdiv_eq_ediv_of_nonneg _ (by decide)]
   unfold idxT
   generalize s &&& (65536 - s)=y at hlt ⊢
   have q1:(y:Int) % 65536=y:=by omega
   have q2:(y:Int) % 4294967296=y:=by omega
   rw [q1,q2]
   omega
  have hk:=chk_ok h0 hs
  refine ⟨_,_,rfl,?_⟩
  rw [e]
  have hi:idxT s<32:=(List.getElem?_eq_some_iff.1 hk).1
  refine onNat_mk rfl (need_mk ⟨hi,onSome_mk (by rw [htb]; exact tabC_at hk) (onIntK_u8 ?_)⟩)
  have:=(lowB_lt h0 hs).1
  rw [wr (by omega) (by omega)]
  exact h
theorem first94 {s:Nat} (hs:s<65536) {R:V→Prop} (h:R (iv (lowB s:Int))):K0G Tryd.prog glX 94 [u16v s] R:=first94T tabC rfl hs h
theorem or_lt {s n:Nat} (hs:s<65536) (hn:n<16):s ||| 1 <<< n<65536:=by
 have h1:1 <<< n<2 ^ 16:=by
  rw [Nat.one_shiftLeft]
  exact Nat.pow_lt_pow_right (by omega) hn
 exact Nat.or_lt_two_pow (n:=16) hs h1
theorem shl1 {n:Nat} (hn:n<16):IntKind.u16.wrap ((1:Int) * (2:Int) ^ min (n:Int).toNat 16)=((1 <<< n:Nat):Int):=by
 have h1:1 <<< n<2 ^ 16:=by
  rw [Nat.one_shiftLeft]
  exact Nat.pow_lt_pow_right (by omega) hn
 rw [Int.toNat_natCast,Nat.min_eq_left (by omega),Int.one_mul,wrap_u16,Nat.one_shiftLeft]
 rw [Nat.one_shiftLeft] at h1
 have:((2:Int) ^ n)=((2 ^ n:Nat):Int):=by simp
 rw [this]
 generalize (2:Nat) ^ n=m at *
 omega
theorem with119 {s n:Nat} (hs:s<65536) (hn:n<16) {R:V→Prop} (h:R (u16v (s ||| 1 <<< n))):K0G Tryd.prog glX 119 [u16v s,iv (n:Int)] R:=by
 refine K0_of_WY0 hmX hcF 3000 Tryd.func119 (see (p:=R (V.raw (Value.int IntKind.u16 (IntKind.u16.wrap (↑(BitVec.ofInt 16 (↑s:Int) ||| BitVec.ofInt 16 (IntKind.u16.wrap ((1:Int) * (2:Int) ^ min (↑n:Int).toNat 16))).toNat:Int))))) (by kernel_rfl) ?_)
 have h2:=or_lt hs hn
 have h1:1 <<< n<65536:=Nat.lt_of_le_of_lt (Nat.right_le_or) h2
 have e:(BitVec.ofInt 16 (s:Int) ||| BitVec.ofInt 16 (IntKind.u16.wrap ((1:Int) * (2:Int) ^ min (n:Int).toNat 16))).toNat=s ||| 1 <<< n:=by
  rw [shl1 hn,BitVec.toNat_or,bv16 hs,bv16 h1]
 have e2:IntKind.u16.wrap ((s ||| 1 <<< n:Nat):Int)=((s ||| 1 <<< n:Nat):Int):=by rw [wrap_u16]; omega
 rw [e,e2]
 exact h
def difN (t s:Nat):Nat:=(BitVec.ofNat 16 t &&& ~~~BitVec.ofNat 16 s).toNat
theorem difN_lt (t s:Nat):difN t s<65536:=(BitVec.ofNat 16 t &&& ~~~BitVec.ofNat 16 s).isLt
theorem difN_bit {t s j:Nat} (ht:t<65536):(difN t s).testBit j=(t.testBit j && !s.testBit j):=by
 unfold difN
 rw [BitVec.testBit_toNat,BitVec.getLsbD_and,BitVec.getLsbD_not,BitVec.getLsbD_ofNat,BitVec.getLsbD_ofNat]
 by_cases hj:j<16
 ·simp [hj]
 ·have:t.testBit j=false:=Nat.testBit_lt_two_pow (Nat.lt_of_lt_of_le ht (Nat.pow_le_pow_right (by omega) (Nat.le_of_not_lt hj):2 ^ 16≤2 ^ j))
  simp [hj,this]
theorem has73 {s t:Nat} {R:V→Prop} (h:R (bv (difN t s==0))):K0G Tryd.prog glX 73 [u16v s,u16v t] R:=by
 refine K0_of_WY0 hmX hcF 3000 Tryd.func73 (see (p:=R (bv (IntKind.u16.wrap (↑(BitVec.ofInt 16 (↑t:Int) &&& ~~~BitVec.ofInt 16 (↑s:Int)).toNat:Int)==(0:Int)))) (by kernel_rfl) ?_)
 have:=difN_lt t s
 have e:IntKind.u16.wrap ((BitVec.ofInt 16 (t:Int) &&& ~~~BitVec.ofInt 16 (s:Int)).toNat:Int)=(difN t s:Int):=by
  rw [BitVec.ofInt_natCast,BitVec.ofInt_natCast,wrap_u16]
  unfold difN at *
  omega
 rw [e]
 rw [show ((difN t s:Int)==(0:Int))=(difN t s==0) by rw [Bool.eq_iff_iff]; simp]
 exact h
theorem without95 {s t:Nat} {R:V→Prop} (h:R (u16v (difN s t))):K0G Tryd.prog glX 95 [u16v s,u16v t] R:=by
 refine K0_of_WY0 hmX hcF 3000 Tryd.func95 (see (p:=R (V.raw (Value.int IntKind.u16 (IntKind.u16.wrap (↑(BitVec.ofInt 16 (↑s:Int) &&& ~~~BitVec.ofInt 16 (↑t:Int)).toNat:Int))))) (by kernel_rfl) ?_)
 have:=difN_lt s t
 have e:IntKind.u16.wrap ((BitVec.ofInt 16 (s:Int) &&& ~~~BitVec.ofInt 16 (t:Int)).toNat:Int)=(difN s t:Int):=by
  rw [BitVec.ofInt_natCast,BitVec.ofInt_natCast,wrap_u16]
  unfold difN at *
  omega
 rw [e]
 exact h
theorem firsts100 {n:Nat} (hn:n≤16) {R:V→Prop} (h:R (u16v (2 ^ n - 1))):K0G Tryd.prog glX 100 [iv (n:Int)] R:=by
 refine K0_of_WY0 hmX hcF 3000 Tryd.func100 (see (p:=R (V.raw (Value.int IntKind.u16 (IntKind.u16.wrap (IntKind.u16.wrap ((1:Int) * (2:Int) ^ min (↑n:Int).toNat 16) - (1:Int)))))) (by kernel_rfl) ?_)
 have e:IntKind.u16.wrap (IntKind.u16.wrap ((1:Int) * (2:Int) ^ min (n:Int).toNat 16) - (1:Int))=((2 ^ n - 1:Nat):Int):=by
  rw [Int.toNat_natCast,Nat.min_eq_left hn,Int.one_mul,wrap_u16,wrap_u16]
  have h1:(2:Nat) ^ n≤2 ^ 16:=Nat.pow_le_pow_right (by omega) hn
  have h2:0<(2:Nat) ^ n:=Nat.pow_pos (by omega)
  have:((2:Int) ^ n)=((2 ^ n:Nat):Int):=by simp
  rw [this]
  generalize (2:Nat) ^ n=m at *
  omega
 rw [e]
 exact h
set_option maxRecDepth 100000
def bdA (w d h:Int) (u:Nat) (c:List Nat) (l:List Pt) (L:List C3) (pe:List (V×V)) (sb:Nat) (bl:List (List V)) (wl:V):V := .adr [iv w,iv d,iv h,V.lst u (nb c),V.lst 4 (ptl l),V.lst 3 (fullR L),V.fmp (numE L),V.fmp pe,V.lst sb bl,wl] 0
noncomputable def shF (w d h:Int) (u:Nat) (c:List Nat) (l:List Pt) (L:List C3) (pe:List (V×V)) (sb:Nat) (bl:List (List V)) (wl:V) (i:Nat) (x y z:Int) (b:Bool) (col:Int) (cov:Nat) (a p:Int) (q:Nat):St:=⟨mkT [(0,.adr [iv w,iv d,iv h,V.lst u (nb c),V.lst 4 (ptl l),V.lst 3 (fullR L),V.fmp (numE L),V.fmp pe,V.lst sb bl,wl] 0),(3,V.ptr (Id.p 0) 0 0),(7,u8i col),(8,u16v cov),(9,iv a),(58,iv p),(59,iv (q:Int))],⟨[(0,O.rows 5 false [[iv (i:Int),iv x,iv y,iv z,bv b]])],1,[]⟩⟩
set_option maxRecDepth 10000
theorem mem_fi {c:List Nat} {k i:Nat}:i∈fi c k↔i<k∧c.getD i 0≠0:=by simp [fi]
theorem fi_succ (c:List Nat) (k:Nat):fi c (k+1)=if c.getD k 0=0 then fi c k else fi c k++[k]:=by
 unfold fi
 rw [List.range_succ,List.filter_append]
 by_cases h:c.getD k 0=0
 ·have hb:(c.getD k 0 != 0)=false:=by rw [h]; rfl
  simp only [List.filter_cons,hb,List.filter_nil,if_pos h,Bool.false_eq_true,if_false,List.append_nil]
 ·have hb:(c.getD k 0 != 0)=true:=by rw [bne_iff_ne]; exact h
  simp only [List.filter_cons,hb,List.filter_nil,if_neg h,if_true]
theorem fi_nodup (c:List Nat) (k:Nat):(fi c k).Nodup:=List.nodup_range.filter _
theorem fi_length (c:List Nat) : ∀ k,k≤c.length→(fi c k).length=fullN (c.take k)
 | 0,_=>rfl
 | k+1,h=>by
  have e:c[k]? = some (c.getD k 0):=by simp [List.getD,show k<c.length from h]
  rw [fi_succ,fullN_snoc e,← fi_length c k (by omega)]
  split <;> simp
theorem fi_len (c:List Nat):(fi c c.length).length=fullN c:=by rw [fi_length c _ (Nat.le_refl _),List.take_length]
def pos (L:List C3) (t:C3):Option Nat:=L.findIdx? (fun x=>decide (x=t))
theorem pos_some {L:List C3} {t:C3} {m:Nat} (h:pos L t=some m):L[m]? = some t:=by
 unfold pos at h
 rw [List.findIdx?_eq_some_iff_getElem] at h
 obtain ⟨h1,h2,_⟩:=h
 rw [List.getElem?_eq_getElem h1]
 simpa using h2
theorem pos_none {L:List C3} {t:C3} (h:pos L t=none):t ∉ L:=by
 unfold pos at h
 rw [List.findIdx?_eq_none_iff] at h
 intro hm
 simpa using h t hm
theorem pos_of {L:List C3} (hn:L.Nodup) {t:C3} {m:Nat} (h:L[m]? = some t):pos L t=some m:=by
 unfold pos
 rw [List.findIdx?_eq_some_iff_getElem]
 obtain ⟨h1,h2⟩:=List.getElem?_eq_some_iff.1 h
 refine ⟨h1,by simpa using h2,fun j hj=>?_⟩
 simp only [decide_eq_true_eq]
 intro e
 have:=(List.getElem_inj hn).1 (e.trans h2.symm)
 omega
theorem eq98 (s t:C3):eqC Tryd.prog 8 98 (V.agg (cv s)) (V.agg (cv t))=some (s.1==t.1&&(s.2.1==t.2.1&&(s.2.2==t.2.2&&true))):=by kernel_rfl
theorem eq98b (s t:C3):(s.1==t.1&&(s.2.1==t.2.1&&(s.2.2==t.2.2&&true)))=decide (t=s):=by
 rw [Bool.eq_iff_iff]
 obtain ⟨a,b,c⟩:=s
 obtain ⟨x,y,z⟩:=t
 simp
 constructor
 ·rintro ⟨rfl,rfl,rfl⟩; exact ⟨rfl,rfl,rfl⟩
 ·rintro ⟨rfl,rfl,rfl⟩; exact ⟨rfl,rfl,rfl⟩
theorem findK_cons {P:Program} {kt:TypeId} {k k' v:V} {r:List (V×V)} {i:Nat} {b:Bool} (h:eqC P 8 kt k k' = some b):findK P kt k ((k', v)::r) i=bif b then some (some (i,k', v)) else findK P kt k r (i+1):=by
 show (eqC P 8 kt k k').bind _=_
 rw [h]
 rfl
theorem find_num (t:C3) : ∀ (L:List C3) (kk j:Nat),findK Tryd.prog 98 (V.agg (cv t)) ((L.zipIdx kk).map fun p=>(V.agg (cv p.1),iv (p.2:Int))) j=some ((pos L t).map fun n=>(j+n,V.agg (cv t),iv ((kk+n:Nat):Int)))
 | [],kk,j=>rfl
 | x::L,kk,j=>by
  rw [List.zipIdx_cons,List.map_cons,findK_cons (eq98 t x),eq98b]
  unfold pos
  rw [List.findIdx?_cons]
  by_cases e:x=t
  ·subst e; simp
  ·have ih:=find_num t L (kk+1) (j+1)
   unfold pos at ih
   simp only [e,decide_false,cond_false,ih,Bool.false_eq_true,if_false,Option.map_map]
   congr 2
   funext n
   simp only [Function.comp_apply,Prod.mk.injEq,true_and]
   exact ⟨by omega,by congr 2; omega⟩
theorem onNum {L:List C3} {t:C3} {K:Nat→V→V→Prop} {N:Prop} (h1 : ∀ m,pos L t=some m→K m (V.agg (cv t)) (iv (m:Int))) (h2:pos L t=none→N):onFind (findK Tryd.prog 98 (V.agg (cv t)) (numE L) 0) K N:=by
 have:=find_num t L 0 0
 unfold numE
 rw [this]
 cases h:pos L t with
 | none=>exact h2 h
 | some m =>
  show K (0+m) _ (iv ((0+m:Nat):Int))
  rw [Nat.zero_add]
  exact h1 m h
theorem onIntK_u16 {n:Nat} {k:Int→Prop} (h:k n):onIntK .u16 (u16v n) k:=h
theorem onLst_w {wl:V} (hw:wl=nilS ∨ ∃ s es,wl = .lst s es) {k:Nat→List (List V)→Prop} (hk : ∀ s es,k s es):onLst wl k:=by
 rcases hw with rfl | ⟨s,es,rfl⟩
 ·exact hk 0 []
 ·exact hk s es
theorem cel_pos {w d:Int} (hw:1≤w) (hd:1≤d) (i:Nat):(0≤(cel w d i).1∧(cel w d i).1<w)∧(0≤(cel w d i).2.1∧(cel w d i).2.1<d)∧0≤(cel w d i).2.2∧(cel w d i).2.2 * d+(cel w d i).2.1=(i:Int) / w∧((cel w d i).2.2 * d+(cel w d i).2.1) * w+(cel w d i).1=i:=by
 have h0:0≤(i:Int) / w:=Int.ediv_nonneg (by omega) (by omega)
 have e1:(i:Int).tmod w=(i:Int) % w:=Int.tmod_eq_emod_of_nonneg (by omega)
 have e2:(i:Int).tdiv w=(i:Int) / w:=Int.tdiv_eq_ediv_of_nonneg (by omega)
 have e3:((i:Int) / w).tmod d=((i:Int) / w) % d:=Int.tmod_eq_emod_of_nonneg h0
 have e4:((i:Int) / w).tdiv d=((i:Int) / w) / d:=Int.tdiv_eq_ediv_of_nonneg h0
 have f1:=Int.emod_nonneg (i:Int) (show w≠0 by omega)
 have f2:=Int.emod_lt_of_pos (i:Int) (show 0<w by omega)
 have f3:=Int.emod_nonneg ((i:Int) / w) (show d≠0 by omega)
 have f4:=Int.emod_lt_of_pos ((i:Int) / w) (show 0<d by omega)
 have f5:0≤(i:Int) / w / d:=Int.ediv_nonneg h0 (by omega)
 have g1:(i:Int) / w / d * d+(i:Int) / w % d=(i:Int) / w:=by
  have:=Int.mul_ediv_add_emod ((i:Int) / w) d
  rw [Int.mul_comm] at this; exact this
 have g2:(i:Int) / w * w+(i:Int) % w=i:=by
  have:=Int.mul_ediv_add_emod (i:Int) w
  rw [Int.mul_comm] at this; exact this
 simp only [cel,e1,e2,e3,e4]
 exact ⟨⟨f1,f2⟩,⟨f3,f4⟩,f5,g1,by rw [g1]; exact g2⟩
theorem cel_inj {w d:Int} (hw:1≤w) (hd:1≤d) {i j:Nat} (h:cel w d i=cel w d j):i=j:=by
 have h1:=(cel_pos hw hd i).2.2.2.2
 have h2:=(cel_pos hw hd j).2.2.2.2
 rw [h] at h1
 omega
theorem celL_nodup {w d:Int} (hw:1≤w) (hd:1≤d) (c:List Nat) (k:Nat):(celL w d c k).Nodup :=
 (fi_nodup c k).map (f:=cel w d) fun i j hne he=>hne (cel_inj hw hd he)
theorem celL_at {w d:Int} {c:List Nat} {k m:Nat} {t:C3} (h:(celL w d c k)[m]? = some t) : ∃ i,(fi c k)[m]? = some i∧cel w d i=t:=by
 unfold celL at h
 rw [List.getElem?_map,Option.map_eq_some_iff] at h
 exact h
def colN (c:List Nat) (m:Nat):Nat:=c.getD ((fi c c.length).getD m 0) 0
theorem wrapI {n:Int} (h1 : -1000000≤n) (h2:n≤1000000):IntKind.i64.wrap n=n:=wr (by omega) (by omega)
theorem col_at {w d h:Int} {c:List Nat} (hs:ShOK w d h c) {m:Nat} {t:C3} (ht:(celL w d c c.length)[m]? = some t) : ∃ i:Nat,i<c.length∧c[i]? = some (colN c m)∧colN c m≠0∧IntKind.i64.wrap (IntKind.i64.wrap (IntKind.i64.wrap (IntKind.i64.wrap (t.2.2 * d)+t.2.1) * w)+t.1)=(i:Int)∧(0≤t.1∧t.1<w)∧(0≤t.2.1∧t.2.1<d)∧(0≤t.2.2∧t.2.2<h):=by
 obtain ⟨i,h1,rfl⟩:=celL_at ht
 have hw:=hs.1; have hd:=hs.2.1; have hh:=hs.2.2.1
 have hlen:=hs.2.2.2.1
 have sz:=sizes hw hd hh
 obtain ⟨f1,f2,f3,f4,f5⟩:=cel_pos hw.1 hd.1 i
 have hm:=mem_fi.1 (List.mem_of_getElem? h1)
 have hcol:colN c m=c.getD i 0:=by unfold colN; rw [List.getD_eq_getElem?_getD (l:=fi c c.length),h1]; rfl
 have hq:0≤(i:Int) / w∧(i:Int) / w≤i:=⟨Int.ediv_nonneg (by omega) (by omega),Int.ediv_le_self _ (by omega)⟩
 have hi:i<256:=by omega
 refine ⟨i,hm.1,?_,by rw [hcol]; exact hm.2,?_,f1,f2,f3,?_⟩
 ·rw [hcol]; simp [List.getD,hm.1]
 ·generalize (cel w d i).2.2 * d=A at *
  rw [wrapI (n:=A) (by omega) (by omega),wrapI (n:=A+_) (by omega) (by omega)]
  generalize (A+(cel w d i).2.1) * w=B at *
  rw [wrapI (n:=B) (by omega) (by omega),wrapI (by omega) (by omega)]
  exact f5
 ·have q1:(i:Int) / w<d * h:=by
   refine Int.ediv_lt_of_lt_mul (by omega) ?_
   have:w * d * h=d * h * w:=by rw [Int.mul_comm (d * h) w,Int.mul_assoc]
   omega
  refine Int.lt_of_mul_lt_mul_right (a:=d) ?_ (by omega)
  have:h * d=d * h:=Int.mul_comm _ _
  omega
def fitF (L:List C3) (C:Nat→Nat) (col:Nat) (x y z a:Int):Nat→Option Nat
 | 0=>some 0
 | q+1=>(fitF L C col x y z a q).bind fun s=>(pos L (x+(q:Int).tmod a,y+(q:Int).tdiv a,z)).bind fun m=>if C m=col then some (s ||| 1 <<< m) else none
def fitS (L:List C3) (C:Nat→Nat) (p:Pt) (m0:Nat) (t:C3) (b:Bool):Option Nat :=
 if b=true∧p.1=p.2.1 then none else if p.2.2.2≠0∧p.2.2.2≠C m0 then none else fitF L C (C m0) t.1 t.2.1 t.2.2 (if b then p.2.1 else p.1) (p.1 * p.2.1).toNat
def fitV:Option Nat→V
 | some s => .tup [u16v s,bv true]
 | none => .tup [u16v 0,bv false]
theorem fitF_none {L:List C3} {C:Nat→Nat} {col:Nat} {x y z a:Int} {q:Nat} (h:fitF L C col x y z a q=none) : ∀ r,q≤r→fitF L C col x y z a r=none
 | 0,hr=>by rw [show q=0 by omega] at h; cases h
 | r+1,hr=>by
  by_cases e:q=r+1
  ·rw [← e]; exact h
  ·have:=fitF_none h r (by omega)
   simp only [fitF,this,Option.bind_none]
theorem fitF_lt {L:List C3} (hL:L.length≤16) {C:Nat→Nat} {col:Nat} {x y z a:Int} : ∀ {q s:Nat},fitF L C col x y z a q=some s→s<65536
 | 0,s,h=>by simp [fitF] at h; omega
 | q+1,s,h=>by
  simp only [fitF,Option.bind_eq_some_iff] at h
  obtain ⟨s', h1,m,h2,h3⟩:=h
  have hm:m<L.length:=(List.getElem?_eq_some_iff.1 (pos_some h2)).1
  split at h3
  ·simp at h3; rw [← h3]; exact or_lt (fitF_lt hL h1) (by omega)
  ·cases h3
theorem celL_len {w d h:Int} {c:List Nat} (hs:ShOK w d h c):(celL w d c c.length).length=fullN c∧1≤fullN c∧fullN c≤16:=by
 refine ⟨?_,by have:=hs.2.2.2.2.1; omega,by have:=hs.2.2.2.2.1; omega⟩
 unfold celL
 rw [List.length_map,fi_len]
theorem fits104 {w d h:Int} {u:Nat} {c:List Nat} {l:List Pt} {L:List C3} {pe:List (V×V)} {sb:Nat} {bl:List (List V)} {wl:V} {i m0:Nat} {n n_1 n_2:Int} {b:Bool} {p:Pt} {R:V→Prop} (hs:ShOK w d h c) (hu:u=1∨c=[]) (hL:L=celL w d c c.length)
  (hw:wl=nilS ∨ ∃ s es,wl = .lst s es) (hl:l[i]? = some p) (hp:1≤p.1∧p.1≤p.2.1∧p.2.1≤8) (hm:L[m0]? = some (n,n_1,n_2)) (hR:R (fitV (fitS L (colN c) p m0 (n,n_1,n_2) b))) :
  K0G Tryd.prog glX 104 [bdA w d h u c l L pe sb bl wl,.agg [iv (i:Int),iv n,iv n_1,iv n_2,bv b]] R:=by
 refine K0_of_WY0 hmX hcF 3000 Tryd.func104 (see (p:=onSome (ptl l)[i]? fun row=>onCons (List.drop 0 row) fun u_1 r=>onIntK IntKind.i64 u_1 fun n_3=>onCons r fun u_2 r=>onIntK IntKind.i64 u_2 fun n_4=>onCons r fun u_3 r=>onIntK IntKind.i64 u_3 fun n_5=>onCons r fun u_4 r=>onIntK IntKind.u8 u_4 fun n_6=>onLst wl fun s es=>onNat (IntKind.i64.wrap (IntKind.i64.wrap (IntKind.i64.wrap (IntKind.i64.wrap (n_2 * d)+n_1) * w)+n)) fun m=>need (u=1) (onSome (nb c)[m]? fun row=>onSome row[0]? fun v=>onIntK IntKind.u8 v fun n_7=>ifB b (ifB (n_3==n_4) (R (V.tup [V.raw (Value.int IntKind.u16 (0:Int)),bv false])) (ifB (n_6 != (0:Int)) (ifB (n_6 != n_7) (R (V.tup [V.raw (Value.int IntKind.u16 (0:Int)),bv false])) (ifB b (La 0 [(0:Tmp),(3:Tmp),(7:Tmp),(8:Tmp),(9:Tmp),(58:Tmp),(59:Tmp)] (WY Tryd.prog cfF 2991 (Env.mk (Bs.mk 0 []) 0 none 105 104 0) (cdAt [1,1,1,1,1,0,1,0,0] (bodyOf Tryd.f104))) (Qblk 0 (Qthen (WY Tryd.prog cfF 2994 (Env.mk (Bs.mk 0 []) 0 none 105 104 0) (cdAt [1,1,1,1,1,1] (bodyOf Tryd.f104)) (QendX Tryd.prog Tryd.f104 fun v h=>R (frzW h v))) (QendX Tryd.prog Tryd.f104 fun v h=>R (frzW h v)))) (St.mk (mkT [(0,V.adr [iv w,iv d,iv h,V.lst u (nb c),V.lst 4 (ptl l),V.lst 3 (fullR L),V.fmp (numE L),V.fmp pe,V.lst sb bl,wl] 0),(3,V.ptr (Id.p 0) 0 0),(7,V.raw (Value.int IntKind.u8 n_7)),(8,V.raw (Value.int IntKind.u16 (0:Int))),(9,iv n_4),(58,iv (IntKind.i64.wrap (n_4 * n_3))),(59,iv (0:Int))]) (Hp.mk [(0,O.rows 5 false [[iv (↑i:Int),iv n,iv n_1,iv n_2,bv b]])] 1 []))) (La 0 [(0:Tmp),(3:Tmp),(7:Tmp),(8:Tmp),(9:Tmp),(58:Tmp),(59:Tmp)] (WY Tryd.prog cfF 2991 (Env.mk (Bs.mk 0 []) 0 none 105 104 0) (cdAt [1,1,1,1,1,0,1,0,0] (bodyOf Tryd.f104))) (Qblk 0 (Qthen (WY Tryd.prog cfF 2994 (Env.mk (Bs.mk 0 []) 0 none 105 104 0) (cdAt [1,1,1,1,1,1] (bodyOf Tryd.f104)) (QendX Tryd.prog Tryd.f104 fun v h=>R (frzW h v))) (QendX Tryd.prog Tryd.f104 fun v h=>R (frzW h v)))) (St.mk (mkT [(0,V.adr [iv w,iv d,iv h,V.lst u (nb c),V.lst 4 (ptl l),V.lst 3 (fullR L),V.fmp (numE L),V.fmp pe,V.lst sb bl,wl] 0),(3,V.ptr (Id.p 0) 0 0),(7,V.raw (Value.int IntKind.u8 n_7)),(8,V.raw (Value.int IntKind.u16 (0:Int))),(9,iv n_3),(58,iv (IntKind.i64.wrap (n_3 * n_4))),(59,iv (0:Int))]) (Hp.mk [(0,O.rows 5 false [[iv (↑i:Int),iv n,iv n_1,iv n_2,bv b]])] 1 []))))) (ifB b (La 0 [(0:Tmp),(3:Tmp),(7:Tmp),(8:Tmp),(9:Tmp),(58:Tmp),(59:Tmp)] (WY Tryd.prog cfF 2991 (Env.mk (Bs.mk 0 []) 0 none 105 104 0) (cdAt [1,1,1,1,1,0,1,0,0] (bodyOf Tryd.f104))) (Qblk 0 (Qthen (WY Tryd.prog cfF 2994 (Env.mk (Bs.mk 0 []) 0 none 105 104 0) (cdAt [1,1,1,1,1,1] (bodyOf Tryd.f104)) (QendX Tryd.prog Tryd.f104 fun v h=>R (frzW h v))) (QendX Tryd.prog Tryd.f104 fun v h=>R (frzW h v)))) (St.mk (mkT [(0,V.adr [iv w,iv d,iv h,V.lst u (nb c),V.lst 4 (ptl l),V.lst 3 (fullR L),V.fmp (numE L),V.fmp pe,V.lst sb bl,wl] 0),(3,V.ptr (Id.p 0) 0 0),(7,V.raw (Value.int IntKind.u8 n_7)),(8,V.raw (Value.int IntKind.u16 (0:Int))),(9,iv n_4),(58,iv (IntKind.i64.wrap (n_4 * n_3))),(59,iv (0:Int))]) (Hp.mk [(0,O.rows 5 false [[iv (↑i:Int),iv n,iv n_1,iv n_2,bv b]])] 1 []))) (La 0 [(0:Tmp),(3:Tmp),(7:Tmp),(8:Tmp),(9:Tmp),(58:Tmp),(59:Tmp)] (WY Tryd.prog cfF 2991 (Env.mk (Bs.mk 0 []) 0 none 105 104 0) (cdAt [1,1,1,1,1,0,1,0,0] (bodyOf Tryd.f104))) (Qblk 0 (Qthen (WY Tryd.prog cfF 2994 (Env.mk (Bs.mk 0 []) 0 none 105 104 0) (cdAt [1,1,1,1,1,1] (bodyOf Tryd.f104)) (QendX Tryd.prog Tryd.f104 fun v h=>R (frzW h v))) (QendX Tryd.prog Tryd.f104 fun v h=>R (frzW h v)))) (St.mk (mkT [(0,V.adr [iv w,iv d,iv h,V.lst u (nb c),V.lst 4 (ptl l),V.lst 3 (fullR L),V.fmp (numE L),V.fmp pe,V.lst sb bl,wl] 0),(3,V.ptr (Id.p 0) 0 0),(7,V.raw (Value.int IntKind.u8 n_7)),(8,V.raw (Value.int IntKind.u16 (0:Int))),(9,iv n_3),(58,iv (IntKind.i64.wrap (n_3 * n_4))),(59,iv (0:Int))]) (Hp.mk [(0,O.rows 5 false [[iv (↑i:Int),iv n,iv n_1,iv n_2,bv b]])] 1 [])))))) (ifB (n_6 != (0:Int)) (ifB (n_6 != n_7) (R (V.tup [V.raw (Value.int IntKind.u16 (0:Int)),bv false])) (ifB b (La 0 [(0:Tmp),(3:Tmp),(7:Tmp),(8:Tmp),(9:Tmp),(58:Tmp),(59:Tmp)] (WY Tryd.prog cfF 2991 (Env.mk (Bs.mk 0 []) 0 none 105 104 0) (cdAt [1,1,1,1,1,0,1,0,0] (bodyOf Tryd.f104))) (Qblk 0 (Qthen (WY Tryd.prog cfF 2994 (Env.mk (Bs.mk 0 []) 0 none 105 104 0) (cdAt [1,1,1,1,1,1] (bodyOf Tryd.f104)) (QendX Tryd.prog Tryd.f104 fun v h=>R (frzW h v))) (QendX Tryd.prog Tryd.f104 fun v h=>R (frzW h v)))) (St.mk (mkT [(0,V.adr [iv w,iv d,iv h,V.lst u (nb c),V.lst 4 (ptl l),V.lst 3 (fullR L),V.fmp (numE L),V.fmp pe,V.lst sb bl,wl] 0),(3,V.ptr (Id.p 0) 0 0),(7,V.raw (Value.int IntKind.u8 n_7)),(8,V.raw (Value.int IntKind.u16 (0:Int))),(9,iv n_4),(58,iv (IntKind.i64.wrap (n_4 * n_3))),(59,iv (0:Int))]) (Hp.mk [(0,O.rows 5 false [[iv (↑i:Int),iv n,iv n_1,iv n_2,bv b]])] 1 []))) (La 0 [(0:Tmp),(3:Tmp),(7:Tmp),(8:Tmp),(9:Tmp),(58:Tmp),(59:Tmp)] (WY Tryd.prog cfF 2991 (Env.mk (Bs.mk 0 []) 0 none 105 104 0) (cdAt [1,1,1,1,1,0,1,0,0] (bodyOf Tryd.f104))) (Qblk 0 (Qthen (WY Tryd.prog cfF 2994 (Env.mk (Bs.mk 0 []) 0 none 105 104 0) (cdAt [1,1,1,1,1,1] (bodyOf Tryd.f104)) (QendX Tryd.prog Tryd.f104 fun v h=>R (frzW h v))) (QendX Tryd.prog Tryd.f104 fun v h=>R (frzW h v)))) (St.mk (mkT [(0,V.adr [iv w,iv d,iv h,V.lst u (nb c),V.lst 4 (ptl l),V.lst 3 (fullR L),V.fmp (numE L),V.fmp pe,V.lst sb bl,wl] 0),(3,V.ptr (Id.p 0) 0 0),(7,V.raw (Value.int IntKind.u8 n_7)),(8,V.raw (Value.int IntKind.u16 (0:Int))),(9,iv n_3),(58,iv (IntKind.i64.wrap (n_3 * n_4))),(59,iv (0:Int))]) (Hp.mk [(0,O.rows 5 false [[iv (↑i:Int),iv n,iv n_1,iv n_2,bv b]])] 1 []))))) (ifB b (La 0 [(0:Tmp),(3:Tmp),(7:Tmp),(8:Tmp),(9:Tmp),(58:Tmp),(59:Tmp)] (WY Tryd.prog cfF 2991 (Env.mk (Bs.mk 0 []) 0 none 105 104 0) (cdAt [1,1,1,1,1,0,1,0,0] (bodyOf Tryd.f104))) (Qblk 0 (Qthen (WY Tryd.prog cfF 2994 (Env.mk (Bs.mk 0 []) 0 none 105 104 0) (cdAt [1,1,1,1,1,1] (bodyOf Tryd.f104)) (QendX Tryd.prog Tryd.f104 fun v h=>R (frzW h v))) (QendX Tryd.prog Tryd.f104 fun v h=>R (frzW h v)))) (St.mk (mkT [(0,V.adr [iv w,iv d,iv h,V.lst u (nb c),V.lst 4 (ptl l),V.lst 3 (fullR L),V.fmp (numE L),V.fmp pe,V.lst sb bl,wl] 0),(3,V.ptr (Id.p 0) 0 0),(7,V.raw (Value.int IntKind.u8 n_7)),(8,V.raw (Value.int IntKind.u16 (0:Int))),(9,iv n_4),(58,iv (IntKind.i64.wrap (n_4 * n_3))),(59,iv (0:Int))]) (Hp.mk [(0,O.rows 5 false [[iv (↑i:Int),iv n,iv n_1,iv n_2,bv b]])] 1 []))) (La 0 [(0:Tmp),(3:Tmp),(7:Tmp),(8:Tmp),(9:Tmp),(58:Tmp),(59:Tmp)] (WY Tryd.prog cfF 2991 (Env.mk (Bs.mk 0 []) 0 none 105 104 0) (cdAt [1,1,1,1,1,0,1,0,0] (bodyOf Tryd.f104))) (Qblk 0 (Qthen (WY Tryd.prog cfF 2994 (Env.mk (Bs.mk 0 []) 0 none 105 104 0) (cdAt [1,1,1,1,1,1] (bodyOf Tryd.f104)) (QendX Tryd.prog Tryd.f104 fun v h=>R (frzW h v))) (QendX Tryd.prog Tryd.f104 fun v h=>R (frzW h v)))) (St.mk (mkT [(0,V.adr [iv w,iv d,iv h,V.lst u (nb c),V.lst 4 (ptl l),V.lst 3 (fullR L),V.fmp (numE L),V.fmp pe,V.lst sb bl,wl] 0),(3,V.ptr (Id.p 0) 0 0),(7,V.raw (Value.int IntKind.u8 n_7)),(8,V.raw (Value.int IntKind.u16 (0:Int))),(9,iv n_3),(58,iv (IntKind.i64.wrap (n_3 * n_4))),(59,iv (0:Int))]) (Hp.mk [(0,O.rows 5 false [[iv (↑i:Int),iv n,iv n_1,iv n_2,bv b]])] 1 []))))))) (by kernel_rfl) ?_)
 have hm' := hm
 rw [hL] at hm'
 obtain ⟨i0,g1,g2,g3,g4,gx,gy,gz⟩:=col_at hs hm'
 simp only at g4 gx gy gz
 have hlen:=celL_len hs
 rw [← hL] at hlen
 have hw1:=hs.1; have hd1:=hs.2.1; have hh1:=hs.2.2.1
 have hu1:u=1:=hu.resolve_right (by rintro rfl; simp at g1)
 have hpq:1 * 1≤p.1 * p.2.1:=Int.mul_le_mul hp.1 (by omega) (by omega) (by omega)
 have hpq2:p.1 * p.2.1≤8 * 8:=Int.mul_le_mul (by omega) hp.2.2 (by omega) (by omega)
 obtain ⟨n_7,hn7⟩ : ∃ n_7:Int,n_7=(colN c m0:Int):=⟨_,rfl⟩
 have loop : ∀ (a p' : Int),1≤a→a≤8→p' = p.1 * p.2.1→R (fitV (fitF L (colN c) (colN c m0) n n_1 n_2 a (p.1 * p.2.1).toNat))→La 0 [(0:Tmp),(3:Tmp),(7:Tmp),(8:Tmp),(9:Tmp),(58:Tmp),(59:Tmp)] (WY Tryd.prog cfF 2991 (Env.mk (Bs.mk 0 []) 0 none 105 104 0) (cdAt [1,1,1,1,1,0,1,0,0] (bodyOf Tryd.f104))) (Qblk 0 (Qthen (WY Tryd.prog cfF 2994 (Env.mk (Bs.mk 0 []) 0 none 105 104 0) (cdAt [1,1,1,1,1,1] (bodyOf Tryd.f104)) (QendX Tryd.prog Tryd.f104 fun v h=>R (frzW h v))) (QendX Tryd.prog Tryd.f104 fun v h=>R (frzW h v)))) (shF w d h u c l L pe sb bl wl i n n_1 n_2 b n_7 0 a p' 0):=by
  intro a p' ha ha8 hp' hR
  refine La.of (σ:=Nat×Nat) (fun x=>shF w d h u c l L pe sb bl wl i n n_1 n_2 b n_7 x.1 a p' x.2) (fun x=>(x.2:Int)≤p' ∧ fitF L (colN c) (colN c m0) n n_1 n_2 a x.2=some x.1) (fun x=>p'.toNat - x.2) (0,0) (by kernel_rfl) ⟨by simp only; omega,rfl⟩ ?_
  rintro ⟨cov,q⟩ ⟨k1,k2⟩ J hJ
  simp only at k1 k2
  refine see (p:=ifB (decide ((↑q:Int)<p')) (need (a≠(0:Int)) (need (a≠(0:Int)) (onFind (findK Tryd.prog 98 (V.agg [iv (IntKind.i64.wrap (n+(↑q:Int).tmod a)),iv (IntKind.i64.wrap (n_1+IntKind.i64.wrap ((↑q:Int).tdiv a))),iv n_2]) (numE L) 0) (fun i_1 kv vv=>onIntK IntKind.i64 vv fun n_3=>onLst wl fun s es=>onNat (IntKind.i64.wrap (IntKind.i64.wrap (IntKind.i64.wrap (IntKind.i64.wrap (n_2 * d)+IntKind.i64.wrap (n_1+IntKind.i64.wrap ((↑q:Int).tdiv a))) * w)+IntKind.i64.wrap (n+(↑q:Int).tmod a))) fun m=>need (u=1) (onSome (nb c)[m]? fun row=>onSome row[0]? fun v=>onIntK IntKind.u8 v fun n_4=>ifB (n_4 != n_7) (R (V.tup [V.raw (Value.int IntKind.u16 (0:Int)),bv false])) (K0G Tryd.prog glX 119 [V.raw (Value.int IntKind.u16 (↑cov:Int)),iv n_3] fun v=>onIntK IntKind.u16 v fun n_5=>J (St.mk (mkT [(0,V.adr [iv w,iv d,iv h,V.lst u (nb c),V.lst 4 (ptl l),V.lst 3 (fullR L),V.fmp (numE L),V.fmp pe,V.lst sb bl,wl] 0),(3,V.ptr (Id.p 0) 0 0),(7,V.raw (Value.int IntKind.u8 n_7)),(8,V.raw (Value.int IntKind.u16 n_5)),(9,iv a),(58,iv p'),(59,iv (IntKind.i64.wrap ((↑q:Int)+(1:Int))))]) (Hp.mk [(0,O.rows 5 false [[iv (↑i:Int),iv n,iv n_1,iv n_2,bv b]])] 1 []))))) (R (V.tup [V.raw (Value.int IntKind.u16 (0:Int)),bv false]))))) (R (V.tup [V.raw (Value.int IntKind.u16 (↑cov:Int)),bv true]))) (by kernel_rfl) ?_
  refine ifB_mk (fun hb=>?_) (fun hb=>?_)
  ·have hlt:=of_decide_eq_true hb
   have q0:0≤(q:Int).tmod a∧(q:Int).tmod a<a:=by
    rw [Int.tmod_eq_emod_of_nonneg (by omega)]
    exact ⟨Int.emod_nonneg _ (by omega),Int.emod_lt_of_pos _ (by omega)⟩
   have q1:0≤(q:Int).tdiv a∧(q:Int).tdiv a≤q:=by
    rw [Int.tdiv_eq_ediv_of_nonneg (by omega)]
    exact ⟨Int.ediv_nonneg (by omega) (by omega),Int.ediv_le_self _ (by omega)⟩
   refine need_mk ⟨by omega,need_mk ⟨by omega,?_⟩⟩
   rw [wrapI (n:=(q:Int).tdiv a) (by omega) (by omega),wrapI (n:=n+_) (by omega) (by omega),wrapI (n:=n_1+_) (by omega) (by omega)]
   have stop:(pos L (n+(q:Int).tmod a,n_1+(q:Int).tdiv a,n_2)).bind (fun m=>if colN c m=colN c m0 then some (cov ||| 1 <<< m) else none)=none→R (V.tup [V.raw (Value.int IntKind.u16 (0:Int)),bv false]):=fun e=>by
    have:fitF L (colN c) (colN c m0) n n_1 n_2 a (q+1)=none:=by simp only [fitF,k2,Option.bind_some]; exact e
    rw [fitF_none this _ (by omega)] at hR
    exact hR
   refine onNum (t:=(n+(q:Int).tmod a,n_1+(q:Int).tdiv a,n_2)) (fun m hm2=>?_) (fun hm2=>stop (by rw [hm2]; rfl))
   have hm3:=pos_some hm2
   rw [hL] at hm3
   obtain ⟨i1,r1,r2,r3,r4,rx,ry,rz⟩:=col_at hs hm3
   have hml:m<16:=by have:=(List.getElem?_eq_some_iff.1 (pos_some hm2)).1; omega
   simp only at r4
   refine onIntK_iv (onLst_w hw fun s es=>onNat_mk r4 (need_mk ⟨hu1,nbel r2 (ifB_mk (fun hb=>stop ?_) (fun hb=>?_))⟩))
   ·rw [hm2,Option.bind_some,if_neg]
    rintro e
    rw [hn7,e] at hb
    simp at hb
   ·have hcov:=fitF_lt (by omega) k2
    have he:colN c m=colN c m0:=by
     rw [hn7] at hb
     have:((colN c m:Nat):Int)=(colN c m0:Int):=by simpa using hb
     omega
    refine with119 hcov hml (onIntK_u16 ?_)
    rw [wrapI (by omega) (by omega)]
    refine hJ (cov ||| 1 <<< m,q+1) ⟨by simp only; omega,?_⟩ (by simp only; omega)
    simp only [fitF,k2,Option.bind_some,hm2,he,if_true]
  ·have hge:=of_decide_eq_false hb
   rw [show (p.1 * p.2.1).toNat=q by omega,k2] at hR
   exact hR
 refine ptel hl (onLst_w hw fun s es=>onNat_mk g4 (need_mk ⟨hu1,nbel g2 ?_⟩))
 unfold fitS at hR
 simp only at hR
 have hww:IntKind.i64.wrap (p.1 * p.2.1)=p.1 * p.2.1:=wrapI (by omega) (by omega)
 have hww2:IntKind.i64.wrap (p.2.1 * p.1)=p.1 * p.2.1:=by rw [Int.mul_comm]; exact hww
 have tail : ¬ (b=true∧p.1=p.2.1) → ¬ (p.2.2.2≠0∧p.2.2.2≠colN c m0)→R (fitV (fitF L (colN c) (colN c m0) n n_1 n_2 (if b then p.2.1 else p.1) (p.1 * p.2.1).toNat)):=fun h1 h2=>by
  rw [if_neg h1,if_neg h2] at hR
  exact hR
 have bad : ∀ x:Nat,p.2.2.2≠0→(((p.2.2.2:Nat):Int) != (colN c m0:Int))=true→p.2.2.2≠0∧p.2.2.2≠colN c m0:=fun _ h0 hb=>⟨h0,by rintro e; rw [e] at hb; simp at hb⟩
 have good:(((p.2.2.2:Nat):Int) != (colN c m0:Int))=false→p.2.2.2=colN c m0:=fun hb=>by
  have:((p.2.2.2:Nat):Int)=(colN c m0:Int):=by simpa using hb
  omega
 have z1:(((p.2.2.2:Nat):Int) != (0:Int))=true→p.2.2.2≠0:=fun hb e=>by rw [e] at hb; simp at hb
 have z2:(((p.2.2.2:Nat):Int) != (0:Int))=false→p.2.2.2=0:=fun hb=>by
  have:((p.2.2.2:Nat):Int)=0:=by simpa using hb
  omega
 have go : ¬ (b=true∧p.1=p.2.1) → ¬ (p.2.2.2≠0∧p.2.2.2≠colN c m0)→(b=true→La 0 [(0:Tmp),(3:Tmp),(7:Tmp),(8:Tmp),(9:Tmp),(58:Tmp),(59:Tmp)] (WY Tryd.prog cfF 2991 (Env.mk (Bs.mk 0 []) 0 none 105 104 0) (cdAt [1,1,1,1,1,0,1,0,0] (bodyOf Tryd.f104))) (Qblk 0 (Qthen (WY Tryd.prog cfF 2994 (Env.mk (Bs.mk 0 []) 0 none 105 104 0) (cdAt [1,1,1,1,1,1] (bodyOf Tryd.f104)) (QendX Tryd.prog Tryd.f104 fun v h=>R (frzW h v))) (QendX Tryd.prog Tryd.f104 fun v h=>R (frzW h v)))) (shF w d h u c l L pe sb bl wl i n n_1 n_2 b n_7 0 p.2.1 (IntKind.i64.wrap (p.2.1 * p.1)) 0))∧(b=false→La 0 [(0:Tmp),(3:Tmp),(7:Tmp),(8:Tmp),(9:Tmp),(58:Tmp),(59:Tmp)] (WY Tryd.prog cfF 2991 (Env.mk (Bs.mk 0 []) 0 none 105 104 0) (cdAt [1,1,1,1,1,0,1,0,0] (bodyOf Tryd.f104))) (Qblk 0 (Qthen (WY Tryd.prog cfF 2994 (Env.mk (Bs.mk 0 []) 0 none 105 104 0) (cdAt [1,1,1,1,1,1] (bodyOf Tryd.f104)) (QendX Tryd.prog Tryd.f104 fun v h=>R (frzW h v))) (QendX Tryd.prog Tryd.f104 fun v h=>R (frzW h v)))) (shF w d h u c l L pe sb bl wl i n n_1 n_2 b n_7 0 p.1 (IntKind.i64.wrap (p.1 * p.2.1)) 0)):=fun h1 h2=>by
  have:=tail h1 h2
  refine ⟨fun hb=>?_,fun hb=>?_⟩
  ·rw [hww2]
   rw [hb,if_pos rfl] at this
   exact loop _ _ (by omega) (by omega) rfl this
  ·rw [hww]
   rw [hb,if_neg (by simp)] at this
   exact loop _ _ (by omega) (by omega) rfl this
 rw [hn7] at go
 refine ifB_mk (fun b1=>?_) (fun b1=>?_)
 ·refine ifB_mk (fun b2=>?_) (fun b2=>?_)
  ·rw [if_pos ⟨b1,by simpa using b2⟩] at hR
   exact hR
  ·have nb : ¬ (b=true∧p.1=p.2.1):=fun e=>by rw [e.2] at b2; simp at b2
   refine ifB_mk (fun b3=>ifB_mk (fun b4=>?_) (fun b4=>ifB_t b1 ((go nb fun e=>e.2 (good b4)).1 b1))) (fun b3=>ifB_t b1 ((go nb fun e=>e.1 (z2 b3)).1 b1))
   rw [if_neg nb,if_pos (bad 0 (z1 b3) b4)] at hR
   exact hR
 ·have nb : ¬ (b=true∧p.1=p.2.1):=fun e=>by rw [e.1] at b1; cases b1
  refine ifB_mk (fun b3=>ifB_mk (fun b4=>?_) (fun b4=>ifB_f b1 ((go nb fun e=>e.2 (good b4)).2 b1))) (fun b3=>ifB_f b1 ((go nb fun e=>e.1 (z2 b3)).2 b1))
  rw [if_neg nb,if_pos (bad 0 (z1 b3) b4)] at hR
  exact hR
set_option maxRecDepth 100000
noncomputable def recT (A:V) (s:Nat) (b:LoopState):Nat×O:=(3,O.lp ⟨b,none,mkT [(0,A),(1,u16v s),(2,V.ptr (Id.p 0) 0 0),(4,u16v 0),(5,V.ptr (Id.p 1) 0 0),(12,u16v s),(13,V.fn (Fn.func 102) [] [V.ptr (Id.p 2) 0 0])],46, #[14],rfA (cdAt [1,1,0,1,0] (bodyOf Tryd.f105)),rfB (cdAt [1,1,0,1,0] (bodyOf Tryd.f105)),105⟩)
noncomputable def shW (A:V) (s s' t:Nat):St:=⟨mkT [(0,V.yl (Id.p 3)),(3,u16v s')],⟨[(0,O.rows 1 false [[A]]),(1,O.rows 1 false [[u16v t]]),(2,O.rows 1 false [[u16v s]]),recT A s .ready],4,[]⟩⟩
noncomputable def shX (A:V) (s:Nat) (n:Int) (t j:Nat):St:=⟨mkT [(2,V.ptr (Id.p 0) 0 0),(5,V.ptr (Id.p 1) 0 0),(6,iv n),(15,V.agg [iv (-1:Int),iv (1:Int)]),(16,iv (j:Int))],⟨[(0,O.rows 1 false [[A]]),(1,O.rows 1 false [[u16v t]]),(2,O.rows 1 false [[u16v s]]),recT A s .busy],4,[]⟩⟩
set_option maxRecDepth 10000
def bitsN (f:Nat→Bool):Nat→Nat
 | 0=>0
 | n+1=>bitsN f n ||| (if f n then 1 <<< n else 0)
theorem bit_one (n j:Nat):(1 <<< n).testBit j=decide (n=j):=by
 rw [Nat.one_shiftLeft,Nat.testBit_two_pow]
theorem bitsN_bit (f:Nat→Bool) : ∀ n j,(bitsN f n).testBit j=(decide (j<n)&&f j)
 | 0,j=>by simp [bitsN]
 | n+1,j=>by
  rw [bitsN,Nat.testBit_or,bitsN_bit f n j]
  by_cases hf:f n=true
  ·rw [if_pos hf,bit_one]
   by_cases e:n=j
   ·subst e; simp [hf]
   ·by_cases hl:j<n
    ·simp [hl,e,show j<n+1 by omega]
    ·simp [hl,e,show ¬ j<n+1 by omega]
  ·rw [if_neg hf,Nat.zero_testBit,Bool.or_false]
   by_cases e:n=j
   ·subst e; simp at hf; simp [hf]
   ·by_cases hl:j<n
    ·simp [hl,show j<n+1 by omega]
    ·simp [hl,show ¬ j<n+1 by omega]
theorem and_pred : ∀ f s,s≠0→s<2 ^ f → ∀ j,(s.testBit j&&(s - 1).testBit j)=(s.testBit j&&decide (j≠lowF f s))
 | 0,s,h0,h=>by simp at h; exact (h0 h).elim
 | f+1,s,h0,h=>by
  intro j
  unfold lowF
  by_cases ho:s % 2=1
  ·rw [if_pos ho]
   cases j with
   | zero=>simp [Nat.testBit_zero]; omega
   | succ j =>
    rw [Nat.testBit_succ,Nat.testBit_succ,show (s - 1) / 2=s / 2 by omega]
    simp
  ·rw [if_neg ho]
   cases j with
   | zero=>simp [Nat.testBit_zero]; omega
   | succ j =>
    rw [Nat.testBit_succ,Nat.testBit_succ,show (s - 1) / 2=s / 2 - 1 by omega,and_pred f (s / 2) (by omega) (by rw [Nat.pow_succ] at h; omega) j]
    simp
theorem drop_bit {s:Nat} (h0:s≠0) (h:s<65536) (j:Nat):(s &&& (s - 1)).testBit j=(s.testBit j&&decide (j≠lowB s)):=by
 rw [Nat.testBit_and]
 exact and_pred 16 s h0 h j
theorem drop_lt {s:Nat} (h0:s≠0):s &&& (s - 1)<s:=Nat.lt_of_le_of_lt Nat.and_le_right (by omega)
def adjz (a b:C3):Bool:=decide (b=(a.1,a.2.1,a.2.2 + -1)∨b=(a.1,a.2.1,a.2.2+1))
def adjA (L:List C3) (n m:Nat):Bool:=match L[n]?,L[m]? with
 | some a,some b=>adjz a b
 | _,_=>false
def tchN (L:List C3) (s:Nat):Nat:=bitsN (fun m=>(List.range L.length).any fun n=>s.testBit n&&adjA L n m) L.length
theorem tchN_bit {L:List C3} {s:Nat} (m:Nat):(tchN L s).testBit m=true ↔ ∃ n,s.testBit n=true∧adjA L n m=true:=by
 unfold tchN
 rw [bitsN_bit,Bool.and_eq_true,List.any_eq_true]
 constructor
 ·rintro ⟨_,n,_,h⟩
  rw [Bool.and_eq_true] at h
  exact ⟨n,h⟩
 ·rintro ⟨n,h1,h2⟩
  have hm:m<L.length∧n<L.length:=by
   unfold adjA at h2
   split at h2
   ·rename_i a b ha hb
    exact ⟨(List.getElem?_eq_some_iff.1 hb).1,(List.getElem?_eq_some_iff.1 ha).1⟩
   ·cases h2
  exact ⟨by simpa using hm.1,n,List.mem_range.2 hm.2,by rw [h1,h2]; rfl⟩
def addQ (L:List C3) (t:Nat) (c:C3):Nat:=match pos L c with
 | some m=>t ||| 1 <<< m
 | none=>t
def addU (L:List C3) (t:Nat) (a:C3):Nat→Nat
 | 0=>t
 | 1=>addQ L t (a.1,a.2.1,a.2.2 + -1)
 | _=>addQ L (addQ L t (a.1,a.2.1,a.2.2 + -1)) (a.1,a.2.1,a.2.2+1)
theorem addQ_lt {L:List C3} (hL:L.length≤16) {t:Nat} (ht:t<65536) (c:C3):addQ L t c<65536:=by
 unfold addQ
 split
 ·rename_i m hm
  have:=(List.getElem?_eq_some_iff.1 (pos_some hm)).1
  exact or_lt ht (by omega)
 ·exact ht
theorem addQ_bit {L:List C3} (hn:L.Nodup) (t:Nat) (c:C3) (m:Nat):(addQ L t c).testBit m=true↔t.testBit m=true∨L[m]? = some c:=by
 unfold addQ
 split
 ·rename_i k hk
  rw [Nat.testBit_or,bit_one,Bool.or_eq_true,decide_eq_true_eq]
  have hk' := pos_some hk
  constructor
  ·rintro (h | h)
   ·exact .inl h
   ·subst h; exact .inr hk'
  ·rintro (h | h)
   ·exact .inl h
   ·refine .inr ?_
    have:=pos_of hn h
    rw [hk] at this
    simpa using this
 ·rename_i hk
  constructor
  ·exact .inl
  ·rintro (h | h)
   ·exact h
   ·exact (pos_none hk (List.mem_of_getElem? h)).elim
theorem addU_bit {L:List C3} (hn:L.Nodup) (t:Nat) {a:C3} {k:Nat} (ha:L[k]? = some a) (m:Nat):(addU L t a 2).testBit m=true↔t.testBit m=true∨adjA L k m=true:=by
 show (addQ L (addQ L t _) _).testBit m=true↔_
 rw [addQ_bit hn,addQ_bit hn]
 unfold adjA
 rw [ha]
 cases hm:L[m]? with
 | none=>simp
 | some b =>
  simp only [adjz,Option.some.injEq,decide_eq_true_eq]
  constructor
  ·rintro ((h | h) | h)
   ·exact .inl h
   ·exact .inr (.inl h)
   ·exact .inr (.inr h)
  ·rintro (h | h | h)
   ·exact .inl (.inl h)
   ·exact .inl (.inr h)
   ·exact .inr h
theorem eq105 (w d h:Int) (u:Nat) (c:List Nat) (l:List Pt) (L:List C3) (pe:List (V×V)) (sb:Nat) (bl:List (List V)) (wl:V) (s:Nat) (R:V→Prop):(La 4 [(0:Tmp),(3:Tmp),(6000000:Tmp)] (WY Tryd.prog cfF 2991 (Env.mk (Bs.mk 0 (spared [] [V.yl (Id.p 3),V.ptr (Id.p 2) 0 0]++[])) 4 none 16 102 0) (cdAt [1,0,0] (bodyOf Tryd.f102))) (Qblk 0 (QendX Tryd.prog Tryd.f102 fun v h' => kontY (WY Tryd.prog cfF 2994) (Env.mk (Bs.mk 0 []) 0 none 46 105 0) (Qblk 0 (Qthen (WY Tryd.prog cfF 2997 (Env.mk (Bs.mk 0 []) 0 none 46 105 0) (cdAt [1,1,1] (bodyOf Tryd.f105)) (QendX Tryd.prog Tryd.f105 fun v h=>R (frzW h v))) (QendX Tryd.prog Tryd.f105 fun v h=>R (frzW h v)))) (mkT [(0,V.adr [iv w,iv d,iv h,V.lst u (nb c),V.lst 4 (ptl l),V.lst 3 (fullR L),V.fmp (numE L),V.fmp pe,V.lst sb bl,wl] 0),(1,V.raw (Value.int IntKind.u16 (↑s:Int))),(2,V.ptr (Id.p 0) 0 0),(4,V.raw (Value.int IntKind.u16 (0:Int))),(5,V.ptr (Id.p 1) 0 0),(12,V.raw (Value.int IntKind.u16 (↑s:Int))),(13,V.fn (Fn.func 102) [] [V.ptr (Id.p 2) 0 0])]) 3 v (bif cfF.clean 102 then gcH 4 v h' else h'))) (St.mk (mkT [(0,V.yl (Id.p 3)),(3,V.raw (Value.int IntKind.u16 (↑s:Int)))]) (Hp.mk [(0,O.rows 1 false [[V.adr [iv w,iv d,iv h,V.lst u (nb c),V.lst 4 (ptl l),V.lst 3 (fullR L),V.fmp (numE L),V.fmp pe,V.lst sb bl,wl] 0]]),(1,O.rows 1 false [[V.raw (Value.int IntKind.u16 (0:Int))]]),(2,O.rows 1 false [[V.raw (Value.int IntKind.u16 (↑s:Int))]]),(3,O.lp (Lr.mk LoopState.ready none (mkT [(0,V.adr [iv w,iv d,iv h,V.lst u (nb c),V.lst 4 (ptl l),V.lst 3 (fullR L),V.fmp (numE L),V.fmp pe,V.lst sb bl,wl] 0),(1,V.raw (Value.int IntKind.u16 (↑s:Int))),(2,V.ptr (Id.p 0) 0 0),(4,V.raw (Value.int IntKind.u16 (0:Int))),(5,V.ptr (Id.p 1) 0 0),(12,V.raw (Value.int IntKind.u16 (↑s:Int))),(13,V.fn (Fn.func 102) [] [V.ptr (Id.p 2) 0 0])]) 46 (Array.mk [14]) (rfA (cdAt [1,1,0,1,0] (bodyOf Tryd.f105))) (rfB (cdAt [1,1,0,1,0] (bodyOf Tryd.f105))) 105))] 4 [])))=WY0 Tryd.prog cfF 3000 105 Tryd.f105 [bdA w d h u c l L pe sb bl wl,u16v s] R:=by kernel_rfl
theorem touching105 {w d h:Int} {u:Nat} {c:List Nat} {l:List Pt} {L:List C3} {pe:List (V×V)} {sb:Nat} {bl:List (List V)} {wl:V} {s:Nat} {R:V→Prop} (hs:ShOK w d h c) (hL:L=celL w d c c.length)
  (hb:s<65536) (hin : ∀ n,s.testBit n=true→n<L.length) (hR:R (u16v (tchN L s))):K0G Tryd.prog glX 105 [bdA w d h u c l L pe sb bl wl,u16v s] R:=by
 refine K0_by hmX hcF 3000 Tryd.func105 (eq105 w d h u c l L pe sb bl wl s R) ?_
 have hlen:=celL_len hs
 rw [← hL] at hlen
 have hnd:L.Nodup:=by rw [hL]; exact celL_nodup hs.1.1 hs.2.1.1 c _
 refine La.of (σ:=Nat×Nat) (fun x=>shW (bdA w d h u c l L pe sb bl wl) s x.1 x.2) (fun x=>x.1<65536∧x.2<65536∧(∀ n,x.1.testBit n=true→s.testBit n=true) ∧ ∀ m,x.2.testBit m=true ↔ ∃ n,s.testBit n=true∧x.1.testBit n=false∧adjA L n m=true) (fun x=>x.1) (s,0) (by kernel_rfl) ⟨hb,by simp only; omega,fun n h=>h,fun m=>by
  simp only [Nat.zero_testBit]
  constructor
  ·intro h; cases h
  ·rintro ⟨n,h1,h2,_⟩; rw [h1] at h2; cases h2⟩ ?_
 rintro ⟨s', t⟩ ⟨k1,k2,k3,k4⟩ J hJ
 simp only at k1 k2 k3 k4
 refine see (p := ifB ((↑s' : Int) != (0 : Int)) (K0G Tryd.prog glX 94 [V.raw (Value.int IntKind.u16 (↑s' : Int))] fun v => onIntK IntKind.i64 v fun n => La 4 [(2 : Tmp), (5 : Tmp), (6 : Tmp), (15 : Tmp), (16 : Tmp), (6000000 : Tmp)] (WY Tryd.prog cfF 2982 (Env.mk (Bs.mk 0 (spared [] [V.yl (Id.p 3), V.ptr (Id.p 2) 0 0] ++ [])) 4 (some (Id.p 3)) 46 105 2) (cdAt [0, 1, 0, 0] (rfB (cdAt [1, 1, 0, 1, 0] (bodyOf Tryd.f105))))) (Qblk 2 (Qblk 1 (Qround (Id.p 3) fun v h_1 => fzNew (callY Tryd.prog cfF (WY Tryd.prog cfF 2986) (Env.mk (Env.mk (Bs.mk 0 (spared [] [V.yl (Id.p 3), V.ptr (Id.p 2) 0 0] ++ [])) 4 none 16 102 0).base (Env.mk (Bs.mk 0 (spared [] [V.yl (Id.p 3), V.ptr (Id.p 2) 0 0] ++ [])) 4 none 16 102 0).nb (Env.mk (Bs.mk 0 (spared [] [V.yl (Id.p 3), V.ptr (Id.p 2) 0 0] ++ [])) 4 none 16 102 0).ro (Env.mk (Bs.mk 0 (spared [] [V.yl (Id.p 3), V.ptr (Id.p 2) 0 0] ++ [])) 4 none 16 102 0).N (Env.mk (Bs.mk 0 (spared [] [V.yl (Id.p 3), V.ptr (Id.p 2) 0 0] ++ [])) 4 none 16 102 0).fid 1).base (Env.mk (Env.mk (Bs.mk 0 (spared [] [V.yl (Id.p 3), V.ptr (Id.p 2) 0 0] ++ [])) 4 none 16 102 0).base (Env.mk (Bs.mk 0 (spared [] [V.yl (Id.p 3), V.ptr (Id.p 2) 0 0] ++ [])) 4 none 16 102 0).nb (Env.mk (Bs.mk 0 (spared [] [V.yl (Id.p 3), V.ptr (Id.p 2) 0 0] ++ [])) 4 none 16 102 0).ro (Env.mk (Bs.mk 0 (spared [] [V.yl (Id.p 3), V.ptr (Id.p 2) 0 0] ++ [])) 4 none 16 102 0).N (Env.mk (Bs.mk 0 (spared [] [V.yl (Id.p 3), V.ptr (Id.p 2) 0 0] ++ [])) 4 none 16 102 0).fid 1).fid) 4 (Oper.mk (some 14) (Op.call (Call.mk (Callee.value (Operand.tmp 11)) #[Operand.tmp 13] #[3])) 4 "set.go:27" #[Edge.mk 0 Ground.data, Edge.mk 2 Ground.data, Edge.mk 2 Ground.chain] none) v h_1 fun v h_2 => putT (Env.mk (Env.mk (Bs.mk 0 (spared [] [V.yl (Id.p 3), V.ptr (Id.p 2) 0 0] ++ [])) 4 none 16 102 0).base (Env.mk (Bs.mk 0 (spared [] [V.yl (Id.p 3), V.ptr (Id.p 2) 0 0] ++ [])) 4 none 16 102 0).nb (Env.mk (Bs.mk 0 (spared [] [V.yl (Id.p 3), V.ptr (Id.p 2) 0 0] ++ [])) 4 none 16 102 0).ro (Env.mk (Bs.mk 0 (spared [] [V.yl (Id.p 3), V.ptr (Id.p 2) 0 0] ++ [])) 4 none 16 102 0).N (Env.mk (Bs.mk 0 (spared [] [V.yl (Id.p 3), V.ptr (Id.p 2) 0 0] ++ [])) 4 none 16 102 0).fid 1).N (mkT [(0, V.yl (Id.p 3)), (3, V.raw (Value.int IntKind.u16 (↑s' : Int))), (5, V.raw (Value.int IntKind.u16 (↑s' : Int))), (6, bv ((↑s' : Int) != (0 : Int))), (11, V.yl (Id.p 3)), (12, V.raw (Value.int IntKind.u16 (↑s' : Int))), (13, iv n)]) (Oper.mk (some 14) (Op.call (Call.mk (Callee.value (Operand.tmp 11)) #[Operand.tmp 13] #[3])) 4 "set.go:27" #[Edge.mk 0 Ground.data, Edge.mk 2 Ground.data, Edge.mk 2 Ground.chain] none).dst v fun tm => (fun st => fzOld (callY Tryd.prog cfF (WY Tryd.prog cfF 2986) (Env.mk (Env.mk (Bs.mk 0 (spared [] [V.yl (Id.p 3), V.ptr (Id.p 2) 0 0] ++ [])) 4 none 16 102 0).base (Env.mk (Bs.mk 0 (spared [] [V.yl (Id.p 3), V.ptr (Id.p 2) 0 0] ++ [])) 4 none 16 102 0).nb (Env.mk (Bs.mk 0 (spared [] [V.yl (Id.p 3), V.ptr (Id.p 2) 0 0] ++ [])) 4 none 16 102 0).ro (Env.mk (Bs.mk 0 (spared [] [V.yl (Id.p 3), V.ptr (Id.p 2) 0 0] ++ [])) 4 none 16 102 0).N (Env.mk (Bs.mk 0 (spared [] [V.yl (Id.p 3), V.ptr (Id.p 2) 0 0] ++ [])) 4 none 16 102 0).fid 1).base (Env.mk (Env.mk (Bs.mk 0 (spared [] [V.yl (Id.p 3), V.ptr (Id.p 2) 0 0] ++ [])) 4 none 16 102 0).base (Env.mk (Bs.mk 0 (spared [] [V.yl (Id.p 3), V.ptr (Id.p 2) 0 0] ++ [])) 4 none 16 102 0).nb (Env.mk (Bs.mk 0 (spared [] [V.yl (Id.p 3), V.ptr (Id.p 2) 0 0] ++ [])) 4 none 16 102 0).ro (Env.mk (Bs.mk 0 (spared [] [V.yl (Id.p 3), V.ptr (Id.p 2) 0 0] ++ [])) 4 none 16 102 0).N (Env.mk (Bs.mk 0 (spared [] [V.yl (Id.p 3), V.ptr (Id.p 2) 0 0] ++ [])) 4 none 16 102 0).fid 1).fid) (askY cfF (Env.mk (Env.mk (Bs.mk 0 (spared [] [V.yl (Id.p 3), V.ptr (Id.p 2) 0 0] ++ [])) 4 none 16 102 0).base (Env.mk (Bs.mk 0 (spared [] [V.yl (Id.p 3), V.ptr (Id.p 2) 0 0] ++ [])) 4 none 16 102 0).nb (Env.mk (Bs.mk 0 (spared [] [V.yl (Id.p 3), V.ptr (Id.p 2) 0 0] ++ [])) 4 none 16 102 0).ro (Env.mk (Bs.mk 0 (spared [] [V.yl (Id.p 3), V.ptr (Id.p 2) 0 0] ++ [])) 4 none 16 102 0).N (Env.mk (Bs.mk 0 (spared [] [V.yl (Id.p 3), V.ptr (Id.p 2) 0 0] ++ [])) 4 none 16 102 0).fid 1).base) (Oper.mk (some 14) (Op.call (Call.mk (Callee.value (Operand.tmp 11)) #[Operand.tmp 13] #[3])) 4 "set.go:27" #[Edge.mk 0 Ground.data, Edge.mk 2 Ground.data, Edge.mk 2 Ground.chain] none) st fun st => wOps Tryd.prog (callY Tryd.prog cfF (WY Tryd.prog cfF 2986) (Env.mk (Env.mk (Bs.mk 0 (spared [] [V.yl (Id.p 3), V.ptr (Id.p 2) 0 0] ++ [])) 4 none 16 102 0).base (Env.mk (Bs.mk 0 (spared [] [V.yl (Id.p 3), V.ptr (Id.p 2) 0 0] ++ [])) 4 none 16 102 0).nb (Env.mk (Bs.mk 0 (spared [] [V.yl (Id.p 3), V.ptr (Id.p 2) 0 0] ++ [])) 4 none 16 102 0).ro (Env.mk (Bs.mk 0 (spared [] [V.yl (Id.p 3), V.ptr (Id.p 2) 0 0] ++ [])) 4 none 16 102 0).N (Env.mk (Bs.mk 0 (spared [] [V.yl (Id.p 3), V.ptr (Id.p 2) 0 0] ++ [])) 4 none 16 102 0).fid 1).base (Env.mk (Env.mk (Bs.mk 0 (spared [] [V.yl (Id.p 3), V.ptr (Id.p 2) 0 0] ++ [])) 4 none 16 102 0).base (Env.mk (Bs.mk 0 (spared [] [V.yl (Id.p 3), V.ptr (Id.p 2) 0 0] ++ [])) 4 none 16 102 0).nb (Env.mk (Bs.mk 0 (spared [] [V.yl (Id.p 3), V.ptr (Id.p 2) 0 0] ++ [])) 4 none 16 102 0).ro (Env.mk (Bs.mk 0 (spared [] [V.yl (Id.p 3), V.ptr (Id.p 2) 0 0] ++ [])) 4 none 16 102 0).N (Env.mk (Bs.mk 0 (spared [] [V.yl (Id.p 3), V.ptr (Id.p 2) 0 0] ++ [])) 4 none 16 102 0).fid 1).fid) (askY cfF (Env.mk (Env.mk (Bs.mk 0 (spared [] [V.yl (Id.p 3), V.ptr (Id.p 2) 0 0] ++ [])) 4 none 16 102 0).base (Env.mk (Bs.mk 0 (spared [] [V.yl (Id.p 3), V.ptr (Id.p 2) 0 0] ++ [])) 4 none 16 102 0).nb (Env.mk (Bs.mk 0 (spared [] [V.yl (Id.p 3), V.ptr (Id.p 2) 0 0] ++ [])) 4 none 16 102 0).ro (Env.mk (Bs.mk 0 (spared [] [V.yl (Id.p 3), V.ptr (Id.p 2) 0 0] ++ [])) 4 none 16 102 0).N (Env.mk (Bs.mk 0 (spared [] [V.yl (Id.p 3), V.ptr (Id.p 2) 0 0] ++ [])) 4 none 16 102 0).fid 1).base) (Env.mk (Env.mk (Bs.mk 0 (spared [] [V.yl (Id.p 3), V.ptr (Id.p 2) 0 0] ++ [])) 4 none 16 102 0).base (Env.mk (Bs.mk 0 (spared [] [V.yl (Id.p 3), V.ptr (Id.p 2) 0 0] ++ [])) 4 none 16 102 0).nb (Env.mk (Bs.mk 0 (spared [] [V.yl (Id.p 3), V.ptr (Id.p 2) 0 0] ++ [])) 4 none 16 102 0).ro (Env.mk (Bs.mk 0 (spared [] [V.yl (Id.p 3), V.ptr (Id.p 2) 0 0] ++ [])) 4 none 16 102 0).N (Env.mk (Bs.mk 0 (spared [] [V.yl (Id.p 3), V.ptr (Id.p 2) 0 0] ++ [])) 4 none 16 102 0).fid 1).N #[Oper.mk (some 11) (Op.move (Operand.tmp 0)) 160 "set.go:27" #[] none, Oper.mk (some 12) (Op.move (Operand.tmp 3)) 102 "set.go:27" #[] none, Oper.mk (some 13) (Op.call (Call.mk (Callee.value (Operand.func 94)) #[Operand.tmp 12] #[102])) 3 "set.go:27" #[Edge.mk 1 Ground.data] none, Oper.mk (some 14) (Op.call (Call.mk (Callee.value (Operand.tmp 11)) #[Operand.tmp 13] #[3])) 4 "set.go:27" #[Edge.mk 0 Ground.data, Edge.mk 2 Ground.data, Edge.mk 2 Ground.chain] none, Oper.mk (some 15) (Op.unOp UnOp.not 4 (Operand.tmp 14)) 4 "set.go:27" #[Edge.mk 3 Ground.data] none].toList [Oper.mk (some 15) (Op.unOp UnOp.not 4 (Operand.tmp 14)) 4 "set.go:27" #[Edge.mk 3 Ground.data] none] st (Qthen (WY Tryd.prog cfF 2987 (Env.mk (Bs.mk 0 (spared [] [V.yl (Id.p 3), V.ptr (Id.p 2) 0 0] ++ [])) 4 none 16 102 1) (cdAt [1, 0, 0, 1, 0, 0, 1] (bodyOf Tryd.f102)) (Qblk 1 (Qthen (WY Tryd.prog cfF 2989 (Env.mk (Bs.mk 0 (spared [] [V.yl (Id.p 3), V.ptr (Id.p 2) 0 0] ++ [])) 4 none 16 102 0) (cdAt [1, 0, 0, 1, 1] (bodyOf Tryd.f102)) (Qla 4 [(0 : Tmp), (3 : Tmp), (6000000 : Tmp)] J (Qblk 0 (QendX Tryd.prog Tryd.f102 fun v h' => kontY (WY Tryd.prog cfF 2994) (Env.mk (Bs.mk 0 []) 0 none 46 105 0) (Qblk 0 (Qthen (WY Tryd.prog cfF 2997 (Env.mk (Bs.mk 0 []) 0 none 46 105 0) (cdAt [1, 1, 1] (bodyOf Tryd.f105)) (QendX Tryd.prog Tryd.f105 fun v h => R (frzW h v))) (QendX Tryd.prog Tryd.f105 fun v h => R (frzW h v)))) (mkT [(0, V.adr [iv w, iv d, iv h, V.lst u (nb c), V.lst 4 (ptl l), V.lst 3 (fullR L), V.fmp (numE L), V.fmp pe, V.lst sb bl, wl] 0), (1, V.raw (Value.int IntKind.u16 (↑s : Int))), (2, V.ptr (Id.p 0) 0 0), (4, V.raw (Value.int IntKind.u16 (0 : Int))), (5, V.ptr (Id.p 1) 0 0), (12, V.raw (Value.int IntKind.u16 (↑s : Int))), (13, V.fn (Fn.func 102) [] [V.ptr (Id.p 2) 0 0])]) 3 v (bif cfF.clean 102 then gcH 4 v h' else h'))))) (Qla 4 [(0 : Tmp), (3 : Tmp), (6000000 : Tmp)] J (Qblk 0 (QendX Tryd.prog Tryd.f102 fun v h' => kontY (WY Tryd.prog cfF 2994) (Env.mk (Bs.mk 0 []) 0 none 46 105 0) (Qblk 0 (Qthen (WY Tryd.prog cfF 2997 (Env.mk (Bs.mk 0 []) 0 none 46 105 0) (cdAt [1, 1, 1] (bodyOf Tryd.f105)) (QendX Tryd.prog Tryd.f105 fun v h => R (frzW h v))) (QendX Tryd.prog Tryd.f105 fun v h => R (frzW h v)))) (mkT [(0, V.adr [iv w, iv d, iv h, V.lst u (nb c), V.lst 4 (ptl l), V.lst 3 (fullR L), V.fmp (numE L), V.fmp pe, V.lst sb bl, wl] 0), (1, V.raw (Value.int IntKind.u16 (↑s : Int))), (2, V.ptr (Id.p 0) 0 0), (4, V.raw (Value.int IntKind.u16 (0 : Int))), (5, V.ptr (Id.p 1) 0 0), (12, V.raw (Value.int IntKind.u16 (↑s : Int))), (13, V.fn (Fn.func 102) [] [V.ptr (Id.p 2) 0 0])]) 3 v (bif cfF.clean 102 then gcH 4 v h' else h'))))))) (Qblk 1 (Qthen (WY Tryd.prog cfF 2989 (Env.mk (Bs.mk 0 (spared [] [V.yl (Id.p 3), V.ptr (Id.p 2) 0 0] ++ [])) 4 none 16 102 0) (cdAt [1, 0, 0, 1, 1] (bodyOf Tryd.f102)) (Qla 4 [(0 : Tmp), (3 : Tmp), (6000000 : Tmp)] J (Qblk 0 (QendX Tryd.prog Tryd.f102 fun v h' => kontY (WY Tryd.prog cfF 2994) (Env.mk (Bs.mk 0 []) 0 none 46 105 0) (Qblk 0 (Qthen (WY Tryd.prog cfF 2997 (Env.mk (Bs.mk 0 []) 0 none 46 105 0) (cdAt [1, 1, 1] (bodyOf Tryd.f105)) (QendX Tryd.prog Tryd.f105 fun v h => R (frzW h v))) (QendX Tryd.prog Tryd.f105 fun v h => R (frzW h v)))) (mkT [(0, V.adr [iv w, iv d, iv h, V.lst u (nb c), V.lst 4 (ptl l), V.lst 3 (fullR L), V.fmp (numE L), V.fmp pe, V.lst sb bl, wl] 0), (1, V.raw (Value.int IntKind.u16 (↑s : Int))), (2, V.ptr (Id.p 0) 0 0), (4, V.raw (Value.int IntKind.u16 (0 : Int))), (5, V.ptr (Id.p 1) 0 0), (12, V.raw (Value.int IntKind.u16 (↑s : Int))), (13, V.fn (Fn.func 102) [] [V.ptr (Id.p 2) 0 0])]) 3 v (bif cfF.clean 102 then gcH 4 v h' else h'))))) (Qla 4 [(0 : Tmp), (3 : Tmp), (6000000 : Tmp)] J (Qblk 0 (QendX Tryd.prog Tryd.f102 fun v h' => kontY (WY Tryd.prog cfF 2994) (Env.mk (Bs.mk 0 []) 0 none 46 105 0) (Qblk 0 (Qthen (WY Tryd.prog cfF 2997 (Env.mk (Bs.mk 0 []) 0 none 46 105 0) (cdAt [1, 1, 1] (bodyOf Tryd.f105)) (QendX Tryd.prog Tryd.f105 fun v h => R (frzW h v))) (QendX Tryd.prog Tryd.f105 fun v h => R (frzW h v)))) (mkT [(0, V.adr [iv w, iv d, iv h, V.lst u (nb c), V.lst 4 (ptl l), V.lst 3 (fullR L), V.fmp (numE L), V.fmp pe, V.lst sb bl, wl] 0), (1, V.raw (Value.int IntKind.u16 (↑s : Int))), (2, V.ptr (Id.p 0) 0 0), (4, V.raw (Value.int IntKind.u16 (0 : Int))), (5, V.ptr (Id.p 1) 0 0), (12, V.raw (Value.int IntKind.u16 (↑s : Int))), (13, V.fn (Fn.func 102) [] [V.ptr (Id.p 2) 0 0])]) 3 v (bif cfF.clean 102 then gcH 4 v h' else h')))))) Ex.norm)) (St.mk tm h_2)))) (St.mk (mkT [(2, V.ptr (Id.p 0) 0 0), (5, V.ptr (Id.p 1) 0 0), (6, iv n), (15, V.agg [iv (-1 : Int), iv (1 : Int)]), (16, iv (0 : Int))]) (Hp.mk [(0, O.rows 1 false [[V.adr [iv w, iv d, iv h, V.lst u (nb c), V.lst 4 (ptl l), V.lst 3 (fullR L), V.fmp (numE L), V.fmp pe, V.lst sb bl, wl] 0]]), (1, O.rows 1 false [[V.raw (Value.int IntKind.u16 (↑t : Int))]]), (2, O.rows 1 false [[V.raw (Value.int IntKind.u16 (↑s : Int))]]), (3, O.lp (Lr.mk LoopState.busy none (mkT [(0, V.adr [iv w, iv d, iv h, V.lst u (nb c), V.lst 4 (ptl l), V.lst 3 (fullR L), V.fmp (numE L), V.fmp pe, V.lst sb bl, wl] 0), (1, V.raw (Value.int IntKind.u16 (↑s : Int))), (2, V.ptr (Id.p 0) 0 0), (4, V.raw (Value.int IntKind.u16 (0 : Int))), (5, V.ptr (Id.p 1) 0 0), (12, V.raw (Value.int IntKind.u16 (↑s : Int))), (13, V.fn (Fn.func (102 : FuncId)) [] [V.ptr (Id.p 2) 0 0])]) 46 (Array.mk [14]) (rfA (cdAt [1, 1, 0, 1, 0] (bodyOf Tryd.f105))) (rfB (cdAt [1, 1, 0, 1, 0] (bodyOf Tryd.f105))) 105))] 4 []))) (R (V.raw (Value.int IntKind.u16 (↑t : Int))))) (by kernel_rfl) ?_
 refine ifB_mk (fun hb=>?_) (fun hb=>?_)
 ·have h0:s' ≠ 0:=by rintro rfl; simp at hb
  obtain ⟨l1,l2⟩:=lowB_lt h0 k1
  refine first94 k1 (onIntK_iv ?_)
  obtain ⟨n,hn⟩ : ∃ n:Int,n=(lowB s' : Int):=⟨_,rfl⟩
  rw [← hn]
  have hlow:=hin _ (k3 _ l2)
  obtain ⟨a,ha⟩:=getI hlow
  refine La.of (σ:=Nat×Nat) (fun x=>shX (bdA w d h u c l L pe sb bl wl) s n x.1 x.2) (fun x=>x.2≤2∧x.1<65536∧x.1=addU L t a x.2) (fun x=>2 - x.2) (t,0) (by kernel_rfl) ⟨by simp only; omega,k2,rfl⟩ ?_
  rintro ⟨t', j⟩ ⟨q1,q2,q3⟩ J2 hJ2
  simp only at q1 q2 q3
  refine see (p:=ifB (decide ((↑j:Int)<(2:Int))) (need (j<2) (onSome [iv (-1:Int),iv (1:Int)][j * 1]? fun v=>onIntK IntKind.i64 v fun n_1=>onNat n fun m=>onSome (fullR L)[m]? fun row=>onCons (List.drop 0 row) fun u_1 r=>onIntK IntKind.i64 u_1 fun n_2=>onCons r fun u_2 r=>onIntK IntKind.i64 u_2 fun n_3=>onCons r fun u_3 r=>onIntK IntKind.i64 u_3 fun n_4=>onFind (findK Tryd.prog 98 (V.agg [iv n_2,iv n_3,iv (IntKind.i64.wrap (n_4+n_1))]) (numE L) 0) (fun i kv vv=>onIntK IntKind.i64 vv fun n_5=>K0G Tryd.prog glX 119 [V.raw (Value.int IntKind.u16 (↑t' : Int)),iv n_5] fun v=>onIntK IntKind.u16 v fun n_6=>J2 (St.mk (mkT [(2,V.ptr (Id.p 0) 0 0),(5,V.ptr (Id.p 1) 0 0),(6,iv n),(15,V.agg [iv (-1:Int),iv (1:Int)]),(16,iv (IntKind.i64.wrap ((↑j:Int)+(1:Int))))]) (Hp.mk [(0,O.rows 1 false [[V.adr [iv w,iv d,iv h,V.lst u (nb c),V.lst 4 (ptl l),V.lst 3 (fullR L),V.fmp (numE L),V.fmp pe,V.lst sb bl,wl] 0]]),(1,O.rows 1 false [[V.raw (Value.int IntKind.u16 n_6)]]),(2,O.rows 1 false [[V.raw (Value.int IntKind.u16 (↑s:Int))]]),(3,O.lp (Lr.mk LoopState.busy none (mkT [(0,V.adr [iv w,iv d,iv h,V.lst u (nb c),V.lst 4 (ptl l),V.lst 3 (fullR L),V.fmp (numE L),V.fmp pe,V.lst sb bl,wl] 0),(1,V.raw (Value.int IntKind.u16 (↑s:Int))),(2,V.ptr (Id.p 0) 0 0),(4,V.raw (Value.int IntKind.u16 (0:Int))),(5,V.ptr (Id.p 1) 0 0),(12,V.raw (Value.int IntKind.u16 (↑s:Int))),(13,V.fn (Fn.func (102:FuncId)) [] [V.ptr (Id.p 2) 0 0])]) 46 (Array.mk [14]) (rfA (cdAt [1,1,0,1,0] (bodyOf Tryd.f105))) (rfB (cdAt [1,1,0,1,0] (bodyOf Tryd.f105))) 105))] 4 []))) (J2 (St.mk (mkT [(2,V.ptr (Id.p 0) 0 0),(5,V.ptr (Id.p 1) 0 0),(6,iv n),(15,V.agg [iv (-1:Int),iv (1:Int)]),(16,iv (IntKind.i64.wrap ((↑j:Int)+(1:Int))))]) (Hp.mk [(0,O.rows 1 false [[V.adr [iv w,iv d,iv h,V.lst u (nb c),V.lst 4 (ptl l),V.lst 3 (fullR L),V.fmp (numE L),V.fmp pe,V.lst sb bl,wl] 0]]),(1,O.rows 1 false [[V.raw (Value.int IntKind.u16 (↑t' : Int))]]),(2,O.rows 1 false [[V.raw (Value.int IntKind.u16 (↑s:Int))]]),(3,O.lp (Lr.mk LoopState.busy none (mkT [(0,V.adr [iv w,iv d,iv h,V.lst u (nb c),V.lst 4 (ptl l),V.lst 3 (fullR L),V.fmp (numE L),V.fmp pe,V.lst sb bl,wl] 0),(1,V.raw (Value.int IntKind.u16 (↑s:Int))),(2,V.ptr (Id.p 0) 0 0),(4,V.raw (Value.int IntKind.u16 (0:Int))),(5,V.ptr (Id.p 1) 0 0),(12,V.raw (Value.int IntKind.u16 (↑s:Int))),(13,V.fn (Fn.func (102:FuncId)) [] [V.ptr (Id.p 2) 0 0])]) 46 (Array.mk [14]) (rfA (cdAt [1,1,0,1,0] (bodyOf Tryd.f105))) (rfB (cdAt [1,1,0,1,0] (bodyOf Tryd.f105))) 105))] 4 []))))) (J (St.mk (mkT [(0,V.yl (Id.p 3)),(3,V.raw (Value.int IntKind.u16 (IntKind.u16.wrap (↑(BitVec.ofInt 16 (↑s' : Int) &&& BitVec.ofInt 16 (IntKind.u16.wrap ((↑s' : Int) - (1:Int)))).toNat:Int))))]) (Hp.mk [(0,O.rows 1 false [[V.adr [iv w,iv d,iv h,V.lst u (nb c),V.lst 4 (ptl l),V.lst 3 (fullR L),V.fmp (numE L),V.fmp pe,V.lst sb bl,wl] 0]]),(1,O.rows 1 false [[V.raw (Value.int IntKind.u16 (↑t' : Int))]]),(2,O.rows 1 false [[V.raw (Value.int IntKind.u16 (↑s:Int))]]),(3,O.lp (Lr.mk LoopState.ready none (mkT [(0,V.adr [iv w,iv d,iv h,V.lst u (nb c),V.lst 4 (ptl l),V.lst 3 (fullR L),V.fmp (numE L),V.fmp pe,V.lst sb bl,wl] 0),(1,V.raw (Value.int IntKind.u16 (↑s:Int))),(2,V.ptr (Id.p 0) 0 0),(4,V.raw (Value.int IntKind.u16 (0:Int))),(5,V.ptr (Id.p 1) 0 0),(12,V.raw (Value.int IntKind.u16 (↑s:Int))),(13,V.fn (Fn.func (102:FuncId)) [] [V.ptr (Id.p 2) 0 0])]) 46 (Array.mk [14]) (rfA (cdAt [1,1,0,1,0] (bodyOf Tryd.f105))) (rfB (cdAt [1,1,0,1,0] (bodyOf Tryd.f105))) 105))] 4 [])))) (by kernel_rfl) ?_
  refine ifB_mk (fun hb=>?_) (fun hb=>?_)
  ·have hj:j<2:=by have:=of_decide_eq_true hb; omega
   obtain ⟨dz,hdz,hd1⟩ : ∃ dz:Int,[iv (-1:Int),iv (1:Int)][j * 1]? = some (iv dz)∧(j=0∧dz = -1∨j=1∧dz=1):=by
    rcases (by omega:j=0∨j=1) with rfl | rfl
    ·exact ⟨-1,rfl,.inl ⟨rfl,rfl⟩⟩
    ·exact ⟨1,rfl,.inr ⟨rfl,rfl⟩⟩
   obtain ⟨i1,r1,r2,r3,r4,rx,ry,rz⟩:=col_at hs (hL ▸ ha)
   have hh1:=hs.2.2.1
   refine need_mk ⟨hj,onSome_mk hdz (onIntK_iv (onNat_mk hn (onSome_mk (x:=cv a) (by simp [fullR,ha]) (onCons_cons (onIntK_iv (onCons_cons (onIntK_iv (onCons_cons (onIntK_iv ?_)))))))))⟩
   rw [wrapI (n:=a.2.2+dz) (by omega) (by omega)]
   have hnext:t'.testBit 0=t'.testBit 0→addQ L t' (a.1,a.2.1,a.2.2+dz)=addU L t a (j+1):=fun _=>by
    rw [q3]
    rcases hd1 with ⟨rfl,rfl⟩ | ⟨rfl,rfl⟩ <;> rfl
   have hnext:=hnext rfl
   have hlt:=addQ_lt (L:=L) (by omega) q2 (a.1,a.2.1,a.2.2+dz)
   refine onNum (t:=(a.1,a.2.1,a.2.2+dz)) (fun m hm=>?_) (fun hm=>?_)
   ·have hml:m<16:=by have:=(List.getElem?_eq_some_iff.1 (pos_some hm)).1; omega
    refine onIntK_iv (with119 q2 hml (onIntK_u16 ?_))
    rw [wrapI (by omega) (by omega)]
    unfold addQ at hnext hlt
    rw [hm] at hnext hlt
    exact hJ2 (t' ||| 1 <<< m,j+1) ⟨by simp only; omega,hlt,hnext⟩ (by simp only; omega)
   ·rw [wrapI (by omega) (by omega)]
    unfold addQ at hnext hlt
    rw [hm] at hnext hlt
    exact hJ2 (t', j+1) ⟨by simp only; omega,hlt,hnext⟩ (by simp only; omega)
  ·have hj:j=2:=by have:=of_decide_eq_false hb; omega
   subst hj
   have e:IntKind.u16.wrap ((BitVec.ofInt 16 (s' : Int) &&& BitVec.ofInt 16 (IntKind.u16.wrap ((s' : Int) - (1:Int)))).toNat:Int)=((s' &&& (s' - 1):Nat):Int):=by
    have h1:IntKind.u16.wrap ((s' : Int) - (1:Int))=((s' - 1:Nat):Int):=by rw [wrap_u16]; omega
    have h2:s' &&& (s' - 1)<65536:=Nat.lt_of_le_of_lt Nat.and_le_left k1
    rw [h1,BitVec.toNat_and,bv16 k1,bv16 (by omega),wrap_u16]
    omega
   rw [e]
   have hd:=drop_lt h0
   refine hJ (s' &&& (s' - 1),t') ⟨by simp only; omega,q2,fun m hm=>?_,fun m=>?_⟩ hd
   ·simp only at hm
    rw [drop_bit h0 k1,Bool.and_eq_true] at hm
    exact k3 m hm.1
   ·simp only
    rw [q3,addU_bit hnd t ha m,k4 m]
    constructor
    ·rintro (⟨x,h1,h2,h3⟩ | h)
     ·exact ⟨x,h1,by rw [drop_bit h0 k1,h2]; rfl,h3⟩
     ·exact ⟨lowB s', k3 _ l2,by rw [drop_bit h0 k1]; simp,h⟩
    ·rintro ⟨x,h1,h2,h3⟩
     rw [drop_bit h0 k1] at h2
     by_cases hx:s'.testBit x=true
     ·rw [hx,Bool.true_and,decide_eq_false_iff_not,Decidable.not_not] at h2
      rw [h2] at h3
      exact .inr h3
     ·exact .inl ⟨x,h1,by simpa using hx,h3⟩
 ·have h0:s' = 0:=by
   have:(s' : Int)=0:=by simpa using hb
   omega
  have:t=tchN L s:=by
   refine Nat.eq_of_testBit_eq fun m=>?_
   rw [Bool.eq_iff_iff,k4 m,tchN_bit,h0]
   simp
  rw [← this] at hR
  exact hR
theorem refFull25 {w d h:Int} {u:Nat} {c:List Nat} {R:V→Prop} (hu:u=1∨c=[]) (hc:c.length≤1000000) (hR:R (iv (fullN c:Int))):K0G Tryd.prog glX 39 [.agg [iv w,iv d,iv h,.lst u (nb c)]] R:=by
 refine K0_of_WY0 hmX hcK 3000 Tryd.func39 (see (p:=La 0 [(1:Tmp),(3:Tmp),(4:Tmp)] (WY Tryd.prog cfK 2994 (Env.mk (Bs.mk 0 []) 0 none 21 39 0) (cdAt [1,1,0,1,0,0] (bodyOf Tryd.f39))) (Qblk 0 (Qthen (WY Tryd.prog cfK 2997 (Env.mk (Bs.mk 0 []) 0 none 21 39 0) (cdAt [1,1,1] (bodyOf Tryd.f39)) (QendX Tryd.prog Tryd.f39 fun v h=>R (frzW h v))) (QendX Tryd.prog Tryd.f39 fun v h=>R (frzW h v)))) (St.mk (mkT [(1,V.ptr (Id.p 0) 0 0),(3,iv (0:Int)),(4,iv (0:Int))]) (Hp.mk [(0,O.rows 4 false [[iv w,iv d,iv h,V.lst u (nb c)]])] 1 []))) (by kernel_rfl) ?_)
 refine La.of (σ:=Int×Nat) (fun x=>sh25 w d h u c x.1 x.2) (fun x=>x.2≤c.length∧x.1=fullN (c.take x.2)) (fun x=>c.length - x.2) (0,0) (by kernel_rfl) ⟨by simp,by simp [fullN]⟩ ?_
 rintro ⟨n,k⟩ ⟨g1,g2⟩ J hJ
 simp only at g1 g2
 refine see (p:=ifB (decide ((↑k:Int)<(↑(nb c).length:Int))) (need (u=1) (onSome (nb c)[k]? fun row=>onSome row[0]? fun v=>onIntK IntKind.u8 v fun n_1=>ifB (n_1 != (0:Int)) (J (St.mk (mkT [(1,V.ptr (Id.p 0) 0 0),(3,iv (IntKind.i64.wrap (n+(1:Int)))),(4,iv (IntKind.i64.wrap ((↑k:Int)+(1:Int))))]) (Hp.mk [(0,O.rows 4 false [[iv w,iv d,iv h,V.lst u (nb c)]])] 1 []))) (J (St.mk (mkT [(1,V.ptr (Id.p 0) 0 0),(3,iv n),(4,iv (IntKind.i64.wrap ((↑k:Int)+(1:Int))))]) (Hp.mk [(0,O.rows 4 false [[iv w,iv d,iv h,V.lst u (nb c)]])] 1 []))))) (R (iv n))) (by kernel_rfl) ?_
 refine ifB_mk (fun hb=>?_) (fun hb=>?_) <;> rw [nb_length] at hb
 ·have hlt:k<c.length:=by have:=of_decide_eq_true hb; omega
  have e1:c[k]? = some (c.getD k 0):=by simp [List.getD,hlt]
  have hu1:u=1:=hu.resolve_right (by rintro rfl; simp at hlt)
  have hs:=fullN_snoc e1
  have hl:=fullN_le (c.take k)
  rw [List.length_take] at hl
  refine need_mk ⟨hu1,nbel e1 ?_⟩
  rw [wr1i hlt (by omega)]
  refine ifB_mk (fun hb=>?_) (fun hb=>?_)
  ·rw [wr (by omega) (by omega)]
   refine hJ (n+1,k+1) ⟨hlt,?_⟩ (by simp only; omega)
   have:c.getD k 0≠0:=by rintro e; rw [e] at hb; simp at hb
   rw [if_neg this] at hs
   simp only
   rw [hs,g2]
   rfl
  ·refine hJ (n,k+1) ⟨hlt,?_⟩ (by simp only; omega)
   have:c.getD k 0=0:=by
    have:((c.getD k 0:Nat):Int)=0:=by simpa using hb
    omega
   rw [if_pos this] at hs
   simp only
   rw [hs,g2]
   rfl
 ·have hk:k=c.length:=by have:=of_decide_eq_false hb; omega
  rw [hk,List.take_length] at g2
  rw [g2]; exact hR
theorem valid33 {w d h:Int} {u:Nat} {c:List Nat} {R:V→Prop} (hu:u=1∨c=[]) (h0:ShOK w d h c→R (bv true)) (h1 : ¬ ShOK w d h c→R (bv false)):K0G Tryd.prog glX 40 [.agg [iv w,iv d,iv h,.lst u (nb c)]] R:=by
 refine K0_of_WY0 hmX hcK 3000 Tryd.func40 (see (p:=ifB (decide (w ≥ (1:Int))) (ifB (!decide (w≤(8:Int))) (R (bv false)) (ifB (decide (d ≥ (1:Int))) (ifB (!decide (d≤(8:Int))) (R (bv false)) (ifB (decide (h ≥ (1:Int))) (ifB (!decide (h≤(4:Int))) (R (bv false)) (ifB ((↑(nb c).length:Int) != IntKind.i64.wrap (IntKind.i64.wrap (w * d) * h)) (R (bv false)) (La 0 [(1:Tmp),(3:Tmp)] (WY Tryd.prog cfK 2994 (Env.mk (Bs.mk 0 []) 0 none 50 40 0) (cdAt [1,1,0,1,0,0] (bodyOf Tryd.f40))) (Qblk 0 (Qthen (WY Tryd.prog cfK 2997 (Env.mk (Bs.mk 0 []) 0 none 50 40 0) (cdAt [1,1,1] (bodyOf Tryd.f40)) (QendX Tryd.prog Tryd.f40 fun v h=>R (frzW h v))) (QendX Tryd.prog Tryd.f40 fun v h=>R (frzW h v)))) (St.mk (mkT [(1,V.ptr (Id.p 0) 0 0),(3,iv (0:Int))]) (Hp.mk [(0,O.rows 4 false [[iv w,iv d,iv h,V.lst u (nb c)]])] 1 []))))) (R (bv false)))) (R (bv false)))) (R (bv false))) (by kernel_rfl) ?_)
 refine ifB_mk (fun a1=>ifB_mk (fun a2=>h1 fun q=>?_) (fun a2=>ifB_mk (fun a3=>ifB_mk (fun a4=>h1 fun q=>?_) (fun a4=>ifB_mk (fun a5=>ifB_mk (fun a6=>h1 fun q=>?_) (fun a6=>?_)) (fun a5=>h1 fun q=>?_))) (fun a3=>h1 fun q=>?_))) (fun a1=>h1 fun q=>?_)
 ·simp at a2; have:=q.1; omega
 ·simp at a4; have:=q.2.1; omega
 ·simp at a6; have:=q.2.2.1; omega
 rotate_left
 ·simp at a5; have:=q.2.2.1; omega
 ·simp at a3; have:=q.2.1; omega
 ·simp at a1; have:=q.1; omega
 simp at a1 a2 a3 a4 a5 a6
 have sz:=sizes ⟨a1,a2⟩ ⟨a3,a4⟩ ⟨a5,a6⟩
 rw [wr (n:=w * d) (by omega) (by omega),wr (by omega) (by omega)]
 refine ifB_mk (fun b=>h1 fun q=>?_) (fun b=>?_) <;> rw [nb_length] at b
 ·simp at b; exact b q.2.2.2.1
 have b:(c.length:Int)=w * d * h:=by simpa using b
 refine La.of (σ:=Nat) (fun k=>sh33 w d h u c k) (fun k=>k≤c.length ∧ ∀ x∈c.take k,x≤15) (fun k=>c.length - k) 0 (by kernel_rfl) (by simp) ?_
 rintro k ⟨g1,g2⟩ J hJ
 refine see (p:=ifB (decide ((↑k:Int)<(↑(nb c).length:Int))) (need (u=1) (onSome (nb c)[k]? fun row=>onSome row[0]? fun v=>onIntK IntKind.u8 v fun n=>ifB (decide (n > (15:Int))) (R (bv false)) (J (St.mk (mkT [(1,V.ptr (Id.p 0) 0 0),(3,iv (IntKind.i64.wrap ((↑k:Int)+(1:Int))))]) (Hp.mk [(0,O.rows 4 false [[iv w,iv d,iv h,V.lst u (nb c)]])] 1 []))))) (K0G Tryd.prog glX 39 [V.agg [iv w,iv d,iv h,V.lst u (nb c)]] fun v=>onIntK IntKind.i64 v fun n=>ifB (decide (n ≥ (1:Int))) (R (bv (decide (n≤(16:Int))))) (R (bv false)))) (by kernel_rfl) ?_
 refine ifB_mk (fun hb=>?_) (fun hb=>?_) <;> rw [nb_length] at hb
 ·have hlt:k<c.length:=by have:=of_decide_eq_true hb; omega
  have e1:c[k]? = some (c.getD k 0):=by simp [List.getD,hlt]
  have hu1:u=1:=hu.resolve_right (by rintro rfl; simp at hlt)
  refine need_mk ⟨hu1,nbel e1 ?_⟩
  refine ifB_mk (fun hb=>h1 fun q=>?_) (fun hb=>?_)
  ·have:=q.2.2.2.2.2 _ (List.mem_of_getElem? e1)
   have hb:=of_decide_eq_true hb
   omega
  ·rw [wr1i hlt (by omega)]
   refine hJ (k+1) ⟨hlt,fun x hx=>?_⟩ (by omega)
   rw [List.take_add_one,e1] at hx
   rcases List.mem_append.1 hx with q | q
   ·exact g2 x q
   ·have hb:=of_decide_eq_false hb
    have q:x=c.getD k 0:=by simpa using q
    omega
 ·have hk:k=c.length:=by have:=of_decide_eq_false hb; omega
  rw [hk,List.take_length] at g2
  refine refFull25 hu (by omega) (onIntK_iv ?_)
  refine ifB_mk (fun c1=>?_) (fun c1=>h1 fun q=>?_)
  ·have c1:=of_decide_eq_true c1
   by_cases c2:(fullN c:Int)≤16
   ·rw [decide_eq_true c2]; exact h0 ⟨⟨a1,a2⟩,⟨a3,a4⟩,⟨a5,a6⟩,b,⟨by omega,by omega⟩,g2⟩
   ·rw [decide_eq_false c2]; exact h1 fun q=>by have:=q.2.2.2.2.1; omega
  ·have c1:=of_decide_eq_false c1
   have:=q.2.2.2.2.1
   omega
theorem refShape12 {w d h:Int} {u:Nat} {c:List Nat} {R:V→Prop} (hu:u=1∨c=[]) (h0:ShOK w d h c→R (iv 0)) (h1 : ¬ ShOK w d h c→R (iv 70)):K0G Tryd.prog glX 17 [.agg [iv w,iv d,iv h,.lst u (nb c)]] R:=by
 refine K0_of_WY0 hmX hcK 3000 Tryd.func17 (see (p:=K0G Tryd.prog glX 40 [V.agg [iv w,iv d,iv h,V.lst u (nb c)]] fun v=>onBool v fun b=>ifB (!b) (R (iv (70:Int))) (R (iv (0:Int)))) (by kernel_rfl) ?_)
 exact valid33 hu (fun q=>onBool_bv (ifB_f rfl (h0 q))) (fun q=>onBool_bv (ifB_t rfl (h1 q)))
theorem refPlates14 {l:List Pt} {R:V→Prop} (h0:PtOK l→R (iv 0)) (h1 : ¬ PtOK l→R (iv 71)):K0G Tryd.prog glX 19 [.lst 4 (ptl l)] R:=by
 refine K0_of_WY0 hmX hcK 3000 Tryd.func19 (see (p:=K0G Tryd.prog glX 52 [V.lst 4 (ptl l)] fun v=>onBool v fun b=>ifB (!b) (R (iv (71:Int))) (R (iv (0:Int)))) (by kernel_rfl) ?_)
 exact plates36 (fun q=>onBool_bv (ifB_f rfl (h0 q))) (fun q=>onBool_bv (ifB_t rfl (h1 q)))
theorem both49 {w d h:Int} {u:Nat} {c:List Nat} {l:List Pt} {R:V→Prop} (hu:u=1∨c=[]) (h0:ShOK w d h c→PtOK l→R (iv 0)) (h1 : ¬ ShOK w d h c→R (iv 70)) (h2:ShOK w d h c → ¬ PtOK l→R (iv 71)):K0G Tryd.prog glX 60 [.agg [iv w,iv d,iv h,.lst u (nb c)],.lst 4 (ptl l)] R:=by
 refine K0_of_WY0 hmX hcK 3000 Tryd.func60 (see (p:=K0G Tryd.prog glX 16 [V.agg [iv w,iv d,iv h,V.lst u (nb c)]] fun v=>onIntK IntKind.i64 v fun n=>ifB (n != (0:Int)) (R (iv n)) (K0G Tryd.prog glX 18 [V.lst 4 (ptl l)] fun v=>onIntK IntKind.i64 v fun n=>R (iv n))) (by kernel_rfl) ?_)
 exact check11 hu (fun q=>onIntK_iv (ifB_f rfl (check13 (fun r=>onIntK_iv (h0 q r)) (fun r=>onIntK_iv (h2 q r))))) (fun q=>onIntK_iv (ifB_t rfl (h1 q)))
theorem asked37 {w d h:Int} {u:Nat} {c:List Nat} {l:List Pt} {R:V→Prop} (hu:u=1∨c=[]) (h0:ShOK w d h c→PtOK l→R (iv 0)) (h1 : ¬ ShOK w d h c→R (iv 70)) (h2:ShOK w d h c → ¬ PtOK l→R (iv 71)):K0G Tryd.prog glX 53 [.agg [iv w,iv d,iv h,.lst u (nb c)],.lst 4 (ptl l)] R:=by
 refine K0_of_WY0 hmX hcK 3000 Tryd.func53 (see (p:=K0G Tryd.prog glX 40 [V.agg [iv w,iv d,iv h,V.lst u (nb c)]] fun v=>onBool v fun b=>ifB (!b) (R (iv (70:Int))) (K0G Tryd.prog glX 19 [V.lst 4 (ptl l)] fun v=>onIntK IntKind.i64 v fun n=>R (iv n))) (by kernel_rfl) ?_)
 exact valid33 hu (fun q=>onBool_bv (ifB_f rfl (refPlates14 (fun r=>onIntK_iv (h0 q r)) (fun r=>onIntK_iv (h2 q r))))) (fun q=>onBool_bv (ifB_t rfl (h1 q)))
end Go.Proofs.YtkkgicjioajimaaDoor
