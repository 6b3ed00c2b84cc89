/- A part of the proof. -/
import Derived.Test.YtbionhgjgcpogaaGreatDoorProg
import Derived.Test.YtbionhgjgcpogaaGreatDoorXT6G10
import Derived.Test.YtbionhgjgcpogaaGreatDoorXT6G15
namespace Go.Proofs.YtbionhgjgcpogaaGreatDoor
open Go Go.Proofs.YtbionhgjgcpogaaGreatDoor.Clean
set_option linter.unusedVariables false
set_option linter.unusedSimpArgs false
set_option maxRecDepth 10000
def gat (ls:List Int) (v:Nat):Int:=ls.getD v (-1)
def Asg (ls:List Int) (v:Nat):Prop:=gat ls v ≠ -1
def Adj (js:List Jt) (a b:Nat):Prop := ∃ j∈js,(j.1=(a:Int)∧j.2.1=(b:Int))∨(j.1=(b:Int)∧j.2.1=(a:Int))
inductive Con (js:List Jt):Nat→Nat→Prop where
 | refl (a:Nat):Con js a a
 | step {a b c:Nat}:Con js a b→Adj js b c→Con js a c
structure Vis (js:List Jt) (ls:List Int) (b f:Nat) (ls' : List Int):Prop where
 len:ls'.length=ls.length
 old : ∀ v,Asg ls v→gat ls' v=gat ls v
 got:Asg ls' b
 new : ∀ v, ¬ Asg ls v→Asg ls' v→gat ls' v=(f:Int)∧Con js b v
 clo : ∀ v w, ¬ Asg ls v→Asg ls' v→Adj js v w→Asg ls' w
 same:Asg ls b→ls' = ls
structure LInv (js:List Jt) (b f:Nat) (ls:List Int) (T:Nat→Prop) (lk:List Int):Prop where
 len:lk.length=ls.length
 old : ∀ v,Asg ls v→gat lk v=gat ls v
 new : ∀ v, ¬ Asg ls v→Asg lk v→gat lk v=(f:Int)∧Con js b v
 clo : ∀ v w, ¬ Asg ls v→Asg lk v→Adj js v w→Asg lk w
 nb : ∀ w,T w→Asg lk w
structure GrpP (js:List Jt) (n:Nat) (g:List Int):Prop where
 len:g.length=n
 lea : ∀ v,v<n → ∃ u:Nat,gat g v=(u:Int)∧u≤v∧Con js u v ∧ ∀ w,Con js w v→u≤w
structure GInv (js:List Jt) (n i:Nat) (g:List Int):Prop where
 len:g.length=n
 done : ∀ v,v<i→Asg g v
 lea : ∀ v,Asg g v → ∃ u:Nat,gat g v=(u:Int)∧Con js u v ∧ ∀ w,Con js w v→u≤w
 clo : ∀ v w,Asg g v→Adj js v w→Asg g w
theorem lnk_few {l:List Bdy} (hB:BodOK l) (h48 : ∀ b∈l,b.2.length≤60):(lnk l).length≤1000000000:=by
 have hk : ∀ a,(knobsAt l a).length≤60:=fun a=>by
  unfold knobsAt
  cases hb:l[a]? with
  | none=>simp
  | some x=>exact h48 x (mem_at hb)
 have:=fm_len (f:=fun a=>(List.range l.length).flatMap fun b=>if a<b then (knobsAt l a).zipIdx.flatMap fun o=>lko o.1 (a:Int) (b:Int) (o.2:Int) (knobsAt l b) else []) (c:=40 * 3600) (l:=List.range l.length) (fun a _=>by
  have:=fm_len (f:=fun b=>if a<b then (knobsAt l a).zipIdx.flatMap fun o=>lko o.1 (a:Int) (b:Int) (o.2:Int) (knobsAt l b) else []) (c:=3600) (l:=List.range l.length) (fun b _=>by
   split
   ·have:=fm_len (f:=fun o:Kn×Nat=>lko o.1 (a:Int) (b:Int) (o.2:Int) (knobsAt l b)) (c:=60) (l:=(knobsAt l a).zipIdx) (fun o _=>Nat.le_trans (lko_len ..) (hk b))
    rw [List.length_zipIdx] at this
    have:=hk a
    omega
   ·simp)
  rw [List.length_range] at this
  have:=Nat.mul_le_mul_right 3600 hB.n40
  omega)
 rw [List.length_range] at this
 have h2:=Nat.mul_le_mul_right (40 * 3600) hB.n40
 unfold lnk
 omega
theorem bods60 {l:List Kd} {m:List Bk} (hl : ∀ q∈l,KdR q) (hr : ∀ b∈m,BkR b) (hA:AskM l m) : ∀ b∈bods l m,b.2.length≤60:=by
 intro b hb
 obtain ⟨c,hc,rfl⟩:=List.mem_map.1 hb
 obtain ⟨hP,_,_,_⟩:=putK hA.kinds hl (hA.all c hc) (hr c hc)
 show (knb _ _ _).length≤60
 rw [knb_length]
 exact hP.put.2.2.2
theorem bods_length (l:List Kd) (m:List Bk):(bods l m).length=m.length:=by simp [bods]
set_option maxRecDepth 100000
def clX (g:FuncId):Bool := !(inN [104,110,129,132,135,145,146,147,148,150,151,152,153,157,158,159,161,162,163,164,166,167,168,170,171,172,173,174,176,179,182,120,94] g)
abbrev KFX (f:Fact):Prop:=K0G Tryz.prog glX f.g f.args fun v=>v=f.r
end Go.Proofs.YtbionhgjgcpogaaGreatDoor
