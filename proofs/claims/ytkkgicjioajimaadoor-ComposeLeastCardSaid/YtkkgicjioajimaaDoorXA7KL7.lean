/- Proved here: the law ComposeLeast returns true for every argument, and leaves its arguments as they were. Conditions: the listed package-level variables hold their literals when the call begins (the card ties this to the program's text). -/
import Derived.Test.YtkkgicjioajimaaDoorCards
import Derived.Test.YtkkgicjioajimaaDoorTie
import Derived.ProofKit
import Derived.LaidHandle
import Derived.Deep.DeepHandedRow
import Derived.Carry
import Derived.Test.YtkkgicjioajimaaDoorXA7G15
import Derived.Test.YtkkgicjioajimaaDoorXA7G16
namespace Go.Proofs.YtkkgicjioajimaaDoor
open Go Go.Proofs.YtkkgicjioajimaaDoor.Clean Go.ChangeShapes Go.WideShapes Go.ChangeAt Go.RowKit
set_option linter.unusedVariables false
set_option maxRecDepth 100000
section
variable {H:Type} {enc:TypeId×Value→H} {w:World}
theorem omap {P:Program} {t:TypeId} {α β:Type} {f:α→List V} {g:β→List V} {ok:α→Prop} {ok' : β→Prop} (h:Opens enc P w t f ok) (m:α→β) (hf : ∀ a,f a=g (m a)) (ho : ∀ a,ok a→ok' (m a)):Opens enc P w t g ok' := by
 intro fuel cs x hx
 obtain ⟨a,h1,h2,h3⟩:=h fuel cs x hx
 exact ⟨m a,hf a ▸ h1,ho a h2,h3⟩
def of3 (a:Int):List V:=[.raw (.int .i64 a)]
def ok3 (a:Int):Prop:=(Lit.int .i64 a).wf=true
theorem op3:Opens enc Tryd.prog w 3 of3 ok3:=opens_int Tryd.underlying3
def of5 (a:Int):List V:=[.raw (.int .u8 a)]
def ok5 (a:Int):Prop:=(Lit.int .u8 a).wf=true
theorem op5:Opens enc Tryd.prog w 5 of5 ok5:=opens_int Tryd.underlying5
def of22 (a:List (Int)):List V:=[.lst 1 (a.map of5)]
def ok22 (l:List (Int)):Prop:=l.length≤maxLen ∧ ∀ x∈l,ok5 x
theorem op22:Opens enc Tryd.prog w 22 of22 ok22:=opens_slice (s:=1) Tryd.underlying22 (by kernel_rfl) (by decide) op5
def of24 (a:Int×Int×Int×List (Int)):List V:=[.raw (.int .i64 a.1),.raw (.int .i64 a.2.1),.raw (.int .i64 a.2.2.1),.lst 1 (a.2.2.2.map of5)]
def ok24 (a:Int×Int×Int×List (Int)):Prop:=ok3 a.1∧ok3 a.2.1∧ok3 a.2.2.1∧ok22 a.2.2.2
theorem op24:Opens enc Tryd.prog w 24 of24 ok24:=by
 have h3 := opensF_cons (enc := enc) (P := Tryd.prog) (w := w) (total := 4) (off := 3) (k := 1) (fd := { name := "Cells", type := 22, offset := 3, embedded := false, tag := "", pkgPath := "", byteOffset := 24 }) rfl (by kernel_rfl) op22 opensF_nil
 have h2 := opensF_cons (enc := enc) (P := Tryd.prog) (w := w) (total := 4) (off := 2) (k := 1) (fd := { name := "H", type := 3, offset := 2, embedded := false, tag := "", pkgPath := "", byteOffset := 16 }) rfl (by kernel_rfl) op3 h3
 have h1 := opensF_cons (enc := enc) (P := Tryd.prog) (w := w) (total := 4) (off := 1) (k := 1) (fd := { name := "D", type := 3, offset := 1, embedded := false, tag := "", pkgPath := "", byteOffset := 8 }) rfl (by kernel_rfl) op3 h2
 have h0 := opensF_cons (enc := enc) (P := Tryd.prog) (w := w) (total := 4) (off := 0) (k := 1) (fd := { name := "W", type := 3, offset := 0, embedded := false, tag := "", pkgPath := "", byteOffset := 0 }) rfl (by kernel_rfl) op3 h1
 exact omap (opens_struct (total:=4) Tryd.underlying24 (by kernel_rfl) h0) (fun a=>(a.1,a.2.1,a.2.2.1,a.2.2.2.1)) (fun a=>rfl) (fun a h=>⟨h.1,h.2.1,h.2.2.1,h.2.2.2.1⟩)
def of52 (a:Int×Int×Int×Int):List V:=[.raw (.int .i64 a.1),.raw (.int .i64 a.2.1),.raw (.int .i64 a.2.2.1),.raw (.int .u8 a.2.2.2)]
def ok52 (a:Int×Int×Int×Int):Prop:=ok3 a.1∧ok3 a.2.1∧ok3 a.2.2.1∧ok5 a.2.2.2
theorem op52:Opens enc Tryd.prog w 52 of52 ok52:=by
 have h3 := opensF_cons (enc := enc) (P := Tryd.prog) (w := w) (total := 4) (off := 3) (k := 1) (fd := { name := "Color", type := 5, offset := 3, embedded := false, tag := "", pkgPath := "", byteOffset := 24 }) rfl (by kernel_rfl) op5 opensF_nil
 have h2 := opensF_cons (enc := enc) (P := Tryd.prog) (w := w) (total := 4) (off := 2) (k := 1) (fd := { name := "N", type := 3, offset := 2, embedded := false, tag := "", pkgPath := "", byteOffset := 16 }) rfl (by kernel_rfl) op3 h3
 have h1 := opensF_cons (enc := enc) (P := Tryd.prog) (w := w) (total := 4) (off := 1) (k := 1) (fd := { name := "D", type := 3, offset := 1, embedded := false, tag := "", pkgPath := "", byteOffset := 8 }) rfl (by kernel_rfl) op3 h2
 have h0 := opensF_cons (enc := enc) (P := Tryd.prog) (w := w) (total := 4) (off := 0) (k := 1) (fd := { name := "W", type := 3, offset := 0, embedded := false, tag := "", pkgPath := "", byteOffset := 0 }) rfl (by kernel_rfl) op3 h1
 exact omap (opens_struct (total:=4) Tryd.underlying52 (by kernel_rfl) h0) (fun a=>(a.1,a.2.1,a.2.2.1,a.2.2.2.1)) (fun a=>rfl) (fun a h=>⟨h.1,h.2.1,h.2.2.1,h.2.2.2.1⟩)
def of25 (a:List (Int×Int×Int×Int)):List V:=[.lst 4 (a.map of52)]
def ok25 (l:List (Int×Int×Int×Int)):Prop:=l.length≤maxLen ∧ ∀ x∈l,ok52 x
theorem op25:Opens enc Tryd.prog w 25 of25 ok25:=opens_slice (s:=4) Tryd.underlying25 (by kernel_rfl) (by decide) op52
def of98 (a:Int×Int×Int):List V:=[.raw (.int .i64 a.1),.raw (.int .i64 a.2.1),.raw (.int .i64 a.2.2)]
def ok98 (a:Int×Int×Int):Prop:=ok3 a.1∧ok3 a.2.1∧ok3 a.2.2
theorem op98:Opens enc Tryd.prog w 98 of98 ok98:=by
 have h2 := opensF_cons (enc := enc) (P := Tryd.prog) (w := w) (total := 3) (off := 2) (k := 1) (fd := { name := "Z", type := 3, offset := 2, embedded := false, tag := "", pkgPath := "", byteOffset := 16 }) rfl (by kernel_rfl) op3 opensF_nil
 have h1 := opensF_cons (enc := enc) (P := Tryd.prog) (w := w) (total := 3) (off := 1) (k := 1) (fd := { name := "Y", type := 3, offset := 1, embedded := false, tag := "", pkgPath := "", byteOffset := 8 }) rfl (by kernel_rfl) op3 h2
 have h0 := opensF_cons (enc := enc) (P := Tryd.prog) (w := w) (total := 3) (off := 0) (k := 1) (fd := { name := "X", type := 3, offset := 0, embedded := false, tag := "", pkgPath := "", byteOffset := 0 }) rfl (by kernel_rfl) op3 h1
 exact omap (opens_struct (total:=3) Tryd.underlying98 (by kernel_rfl) h0) (fun a=>(a.1,a.2.1,a.2.2.1)) (fun a=>rfl) (fun a h=>⟨h.1,h.2.1,h.2.2.1⟩)
def of4 (a:Bool):List V:=[.raw (.bool a)]
def ok4 (a:Bool):Prop:=True
theorem op4:Opens enc Tryd.prog w 4 of4 ok4:=opens_bool Tryd.underlying4
def of100 (a:Int×(Int×Int×Int)×Bool):List V:=[.raw (.int .i64 a.1),.raw (.int .i64 a.2.1.1),.raw (.int .i64 a.2.1.2.1),.raw (.int .i64 a.2.1.2.2),.raw (.bool a.2.2)]
def ok100 (a:Int×(Int×Int×Int)×Bool):Prop:=ok3 a.1∧ok98 a.2.1∧ok4 a.2.2
theorem op100:Opens enc Tryd.prog w 100 of100 ok100:=by
 have h2 := opensF_cons (enc := enc) (P := Tryd.prog) (w := w) (total := 5) (off := 4) (k := 1) (fd := { name := "Turned", type := 4, offset := 4, embedded := false, tag := "", pkgPath := "", byteOffset := 32 }) rfl (by kernel_rfl) op4 opensF_nil
 have h1 := opensF_cons (enc := enc) (P := Tryd.prog) (w := w) (total := 5) (off := 1) (k := 3) (fd := { name := "At", type := 98, offset := 1, embedded := false, tag := "", pkgPath := "", byteOffset := 8 }) rfl (by kernel_rfl) op98 h2
 have h0 := opensF_cons (enc := enc) (P := Tryd.prog) (w := w) (total := 5) (off := 0) (k := 1) (fd := { name := "Plate", type := 3, offset := 0, embedded := false, tag := "", pkgPath := "", byteOffset := 0 }) rfl (by kernel_rfl) op3 h1
 exact omap (opens_struct (total:=5) Tryd.underlying100 (by kernel_rfl) h0) (fun a=>(a.1,a.2.1,a.2.2.1)) (fun a=>rfl) (fun a h=>⟨h.1,h.2.1,h.2.2.1⟩)
def of26 (a:List (Int×(Int×Int×Int)×Bool)):List V:=[.lst 5 (a.map of100)]
def ok26 (l:List (Int×(Int×Int×Int)×Bool)):Prop:=l.length≤maxLen ∧ ∀ x∈l,ok100 x
theorem op26:Opens enc Tryd.prog w 26 of26 ok26:=opens_slice (s:=5) Tryd.underlying26 (by kernel_rfl) (by decide) op100
end
theorem wf_u8 {n:Int} (h:(Lit.int .u8 n).wf=true):0≤n:=by
 simp [Lit.wf,IntKind.min,IntKind.max,IntKind.signed,IntKind.bits] at h
 omega
theorem said7 {x0:Int×Int×Int×List (Int)} {x1:List (Int×Int×Int×Int)} {x2:List (Int×(Int×Int×Int)×Bool)} (ok0_:ok24 x0) (ok1_:ok25 x1) (ok2_:ok26 x2):K0G Tryd.prog glX 7 [.agg (of24 x0),.lst 4 (x1.map of52),.lst 5 (x2.map of100)] (fun v=>v=bv true) :=
 law7' (x0:=x0) (x1:=x1) (x2:=x2) (fun x hx=>wf_u8 (ok0_.2.2.2.2 x hx)) (fun x hx=>wf_u8 (ok1_.2 x hx).2.2.2) rfl
theorem own:ownKnob Tryd.prog.godebug=none:=by kernel_rfl
theorem laidOut:laidOutB Tryd.prog=true:=by kernel_rfl
set_option maxRecDepth 100000 in
theorem contract (H:Type) (enc:TypeId×Value→H) (W:World) (base:Nat) (args:Array Value) (ds gs:List (DataW H)) (before:List MemPlace)
  (hval : ∀ (j:Nat) t v,Tryd.f7.params[j]? = some t→args[j]? = some v→Value.okWide Tryd.prog W .any base t v)
  (hW:DataW.Whole enc Tryd.prog Tryd.f7.params.toList Rows.composeLeastSpec.vars false W args.toList ds gs before) (hL:laidMetH Tryd.prog Rows.composeLeastRow.laid W) :
  Calls Tryd.prog 7 args W fun e W' => ∃ v,e = .returned v∧Rows.composeLeastSpec.post enc Tryd.prog Tryd.f7 false true false false W args v W' := by
 have hW' := hW
 obtain ⟨p,q,hA0,hV,rfl,hfz,hnd⟩:=hW
 have hA:DataW.TrodAll enc Tryd.prog W 0 (fun _=>true) true Tryd.f7.params.toList args.toList ds p:=hA0
 rw [Tryd.params7] at hA hval
 obtain ⟨v0,v1,v2,d0,d1,d2,p0,p1,p2,rfl,rfl,rfl,h0,h1,h2⟩:=trodAll_three hA
 obtain ⟨rfl,rfl⟩:=trodVars_none hV
 clear hA0
 obtain ⟨x0,r0,ok0_⟩:=arg_struct Tryd.underlying24 (hval 0 24 v0 rfl rfl) h0 op24
 obtain ⟨x1,r1,ok1_⟩:=arg_slice Tryd.underlying25 (hval 1 25 v1 rfl rfl) h1 op25
 obtain ⟨x2,r2,ok2_⟩:=arg_slice Tryd.underlying26 (hval 2 26 v2 rfl rfl) h2 op26
 have hlaw:=said7 ok0_ ok1_ ok2_
 have hrun:=hlaw (FW W) W [v0,v1,v2] (fun r h=>h) (fun g cs h=>by
  unfold glX at h
  split at h
  ·cases h; exact laid_adr (by kernel_rfl) hL (n := "math/bits.deBruijn32tab") (d := Rows.laid_math_bits_deBruijn32tab) (by simp [Rows.composeLeastRow]) ⟨by kernel_rfl, by kernel_rfl⟩ (by simp [tabC])
  ·cases h) (by simp only [riL]; exact ⟨v0,[v1,v2],rfl,r0,⟨v1,[v2],rfl,r1,⟨v2,[],rfl,r2,rfl⟩⟩⟩)
 refine hrun.mono fun e W' he=>?_
 obtain ⟨x,v,F', rfl,rfl,hx,hb,_⟩:=he
 have hx' : x = .bool true:=by simpa [bv,ri] using hx
 subst hx'
 have hlt : ∀ y∈p0++p1++p2,y.block<W.heap.size:=fun y hy=>by
  have:=hW'.lt y (by simpa using hy)
  exact this
 simp only [List.append_nil] at hW'
 exact ⟨_,rfl,_,_,_,[],_,[],hW', trodAll_mk1 (shut_bool Tryd.underlying4 _),
  trodAll_mk3 (Below.trod laidOut (by kernel_rfl) (of_decide_eq_true (by kernel_rfl)) h0 hb.toBelow (fun y hy=>hlt y (by simp [hy]))) (Below.trod laidOut (by kernel_rfl) (of_decide_eq_true (by kernel_rfl)) h1 hb.toBelow (fun y hy=>hlt y (by simp [hy]))) (Below.trod laidOut (by kernel_rfl) (of_decide_eq_true (by kernel_rfl)) h2 hb.toBelow (fun y hy=>hlt y (by simp [hy]))),rfl,hb.frame _,fun h=>by cases h⟩
noncomputable def laidWorld (os:Os):World :=
 { World.holding Tryd.prog os ⟨#[], #[],[]⟩ with heap:=(World.holding Tryd.prog os ⟨#[], #[],[]⟩).heap.modify 0 (fun
   | .cells _ t frozen => .cells #[.int .u8 0,.int .u8 1,.int .u8 28,.int .u8 2,.int .u8 29,.int .u8 14,.int .u8 24,.int .u8 3,.int .u8 30,.int .u8 22,.int .u8 20,.int .u8 15,.int .u8 25,.int .u8 17,.int .u8 4,.int .u8 8,.int .u8 31,.int .u8 27,.int .u8 13,.int .u8 23,.int .u8 21,.int .u8 19,.int .u8 16,.int .u8 7,.int .u8 26,.int .u8 12,.int .u8 18,.int .u8 6,.int .u8 11,.int .u8 5,.int .u8 10,.int .u8 9] t frozen
   | o=>o) }
theorem laid_met (os:Os):laidMet Tryd.prog Rows.composeLeastRow.laid ((laidWorld os).forCall (fun _ _=>0) ⟨#[], #[.agg #[.int .i64 0,.int .i64 0,.int .i64 0,.slice none 0 0],.slice none 0 0,.slice none 0 0],[]⟩).memory :=
 laidMet_of_run' 8 (by kernel_rfl) (by kernel_rfl)
theorem reads (os:Os) {H:Type} (enc:TypeId×Value→H) : ∃ dd places,DataW.whole enc Tryd.prog ((laidWorld os).forCall (fun _ _=>0) ⟨#[], #[.agg #[.int .i64 0,.int .i64 0,.int .i64 0,.slice none 0 0],.slice none 0 0,.slice none 0 0],[]⟩).memory Tryd.f7.params.toList Rows.composeLeastSpec.vars false (#[.agg #[.int .i64 0,.int .i64 0,.int .i64 0,.slice none 0 0],.slice none 0 0,.slice none 0 0]:Array Value).toList 8=some (dd,[],places) :=
 ⟨[.agg [.lit (.int .i64 0),.lit (.int .i64 0),.lit (.int .i64 0),.nil],.nil,.nil],[],by kernel_rfl⟩
set_option maxRecDepth 100000 in
theorem lifted (os:Os) (started:os.Started) (H:Type) (enc:TypeId×Value→H) (F:Stop.Interp) :
  ReturnsInHanded {} Tryd.checked os 7 .any ((OpenSpec.ofChange Rows.composeLeastSpec).preRow enc Tryd.prog Tryd.f7 Rows.composeLeastRow.domain false Rows.composeLeastRow.laid) (((OpenSpec.ofChange Rows.composeLeastSpec).at F).post enc Tryd.prog Tryd.f7 false true false false):=by
 obtain ⟨dd,places,hx⟩:=reads os enc
 refine returnsInHanded_of_row (C:=Tryd.checked) (s:=OpenSpec.ofChange Rows.composeLeastSpec) own started (by kernel_rfl) Tryd.func7
  (witness_row_at (enc:=enc) (C:=Tryd.checked) false (laidWorld os) #[.agg #[.int .i64 0,.int .i64 0,.int .i64 0,.slice none 0 0],.slice none 0 0,.slice none 0 0] rfl (by kernel_rfl) (by kernel_rfl) (by kernel_rfl)
   (OpenSpec.preRow_of_cond 8 hx (by kernel_rfl) (fun k hk=>by cases hk) (by kernel_rfl) (laid_met os))) ?_
 intro W base args ds gs before hval hW _ _ _ hL _ _
 exact contract H enc W base args ds gs before hval hW hL
theorem bare:Rows.ComposeLeastSaid :=
 OpenClaim.holds_of_cond 7 Tryd.f7 rfl rfl rfl rfl rfl rfl rfl ⟨rfl,rfl,rfl,rfl,rfl⟩ rfl rfl rfl rfl rfl (by kernel_rfl) Tryd.func7 (by kernel_rfl)
  (of_decide_eq_true (by kernel_rfl)) (by unfold Func.isWrapper; first | (rw [if_pos (by decide +kernel)]; kernel_rfl) | (rw [if_neg (by decide +kernel)]; exact ⟨rfl,rfl⟩))
  (fun os started H enc _ F=>by rw [OpenClaim.pre_eq_preRow]; exact lifted os started H enc F)
theorem plain (f:FuncId) (fn:Func) (hf:Tryd.pinned.checked.prog.funcNamed Rows.composeLeastRow.func=some f) (hfn:Tryd.pinned.checked.prog.funcs[f]? = some fn) :
  false=Tryd.pinned.checked.prog.looks [] ∧ ∀ (j:Nat) t,fn.params[j]? = some t→Tryd.pinned.checked.prog.wantsStandIn t=false:=by
 obtain rfl:f=7:=Option.some.inj ((show Tryd.prog.funcNamed Rows.composeLeastRow.func=some 7 by kernel_rfl).symm.trans hf) |>.symm
 obtain rfl:fn=Tryd.f7:=(Option.some.inj (Tryd.func7.symm.trans hfn)).symm
 refine ⟨by kernel_rfl,fun j t ht=>?_⟩
 rw [Tryd.params7] at ht
 have hm:t∈[24,25,26]:=by
  have:=Array.mem_of_getElem? ht
  simp at this ⊢
  exact this
 have hall:([24,25,26].all fun u => !Tryd.prog.wantsStandIn u)=true:=by kernel_rfl
 exact (show Tryd.prog.wantsStandIn t=false by simpa using List.all_eq_true.1 hall t hm)
theorem said:Rows.ComposeLeastCardSaid :=
 Claim7.holds_tied_plain_at .later [] _ _ _ _ bare (fun _ h=>by cases h) (by kernel_rfl) (fun _ h=>by cases h) composeLeast_row_tie rfl ⟨rfl,rfl⟩ (by kernel_rfl) rfl plain (by kernel_rfl)
end Go.Proofs.YtkkgicjioajimaaDoor
