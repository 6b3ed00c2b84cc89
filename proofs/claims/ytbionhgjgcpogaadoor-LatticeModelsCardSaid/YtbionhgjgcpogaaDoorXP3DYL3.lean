/- Proved here: the law LatticeModels returns true for every argument, and leaves its arguments as they were. Conditions: the listed package-level variables hold their literals when the call begins (the card ties this to the program's text). -/
import Derived.Test.YtbionhgjgcpogaaDoorCards
import Derived.Test.YtbionhgjgcpogaaDoorTie
import Derived.ProofKit
import Derived.LaidHandle
import Derived.Deep.DeepHandedRow
import Derived.Carry
import Derived.Test.YtbionhgjgcpogaaDoorXP3G16
namespace Go.Proofs.YtbionhgjgcpogaaDoor
open Go Go.Proofs.YtbionhgjgcpogaaDoor.Clean Go.ChangeShapes Go.WideShapes Go.ChangeAt Go.RowKit
set_option linter.unusedVariables false
set_option maxRecDepth 100000
section
variable {H:Type} {enc:TypeId×Value→H} {w:World}
theorem omap {P:Program} {t:TypeId} {α β:Type} {f:α→List V} {g:β→List V} {ok:α→Prop} {ok' : β→Prop} (h:Opens enc P w t f ok) (m:α→β) (hf : ∀ a,f a=g (m a)) (ho : ∀ a,ok a→ok' (m a)):Opens enc P w t g ok' := by
 intro fuel cs x hx
 obtain ⟨a,h1,h2,h3⟩:=h fuel cs x hx
 exact ⟨m a,hf a ▸ h1,ho a h2,h3⟩
def of3 (a:Int):List V:=[.raw (.int .i64 a)]
def ok3 (a:Int):Prop:=(Lit.int .i64 a).wf=true
theorem op3:Opens enc Tryd.prog w 3 of3 ok3:=opens_int Tryd.underlying3
def of27 (a:Int×Int×Int):List V:=[.raw (.int .i64 a.1),.raw (.int .i64 a.2.1),.raw (.int .i64 a.2.2)]
def ok27 (a:Int×Int×Int):Prop:=ok3 a.1∧ok3 a.2.1∧ok3 a.2.2
theorem op27:Opens enc Tryd.prog w 27 of27 ok27:=by
 have h2 := opensF_cons (enc := enc) (P := Tryd.prog) (w := w) (total := 3) (off := 2) (k := 1) (fd := { name := "Z", type := 3, offset := 2, embedded := false, tag := "", pkgPath := "", byteOffset := 16 }) rfl (by kernel_rfl) op3 opensF_nil
 have h1 := opensF_cons (enc := enc) (P := Tryd.prog) (w := w) (total := 3) (off := 1) (k := 1) (fd := { name := "Y", type := 3, offset := 1, embedded := false, tag := "", pkgPath := "", byteOffset := 8 }) rfl (by kernel_rfl) op3 h2
 have h0 := opensF_cons (enc := enc) (P := Tryd.prog) (w := w) (total := 3) (off := 0) (k := 1) (fd := { name := "X", type := 3, offset := 0, embedded := false, tag := "", pkgPath := "", byteOffset := 0 }) rfl (by kernel_rfl) op3 h1
 exact omap (opens_struct (total:=3) Tryd.underlying27 (by kernel_rfl) h0) (fun a=>(a.1,a.2.1,a.2.2.1)) (fun a=>rfl) (fun a h=>⟨h.1,h.2.1,h.2.2.1⟩)
def of52 (a:List (Int×Int×Int)):List V:=[.lst 3 (a.map of27)]
def ok52 (l:List (Int×Int×Int)):Prop:=l.length≤maxLen ∧ ∀ x∈l,ok27 x
theorem op52:Opens enc Tryd.prog w 52 of52 ok52:=opens_slice (s:=3) Tryd.underlying52 (by kernel_rfl) (by decide) op27
def of5 (a:Int):List V:=[.raw (.int .u8 a)]
def ok5 (a:Int):Prop:=(Lit.int .u8 a).wf=true
theorem op5:Opens enc Tryd.prog w 5 of5 ok5:=opens_int Tryd.underlying5
def of96 (a:(Int×Int×Int)×Int×Int):List V:=[.raw (.int .i64 a.1.1),.raw (.int .i64 a.1.2.1),.raw (.int .i64 a.1.2.2),.raw (.int .u8 a.2.1),.raw (.int .u8 a.2.2)]
def ok96 (a:(Int×Int×Int)×Int×Int):Prop:=ok27 a.1∧ok5 a.2.1∧ok5 a.2.2
theorem op96:Opens enc Tryd.prog w 96 of96 ok96:=by
 have h2 := opensF_cons (enc := enc) (P := Tryd.prog) (w := w) (total := 5) (off := 4) (k := 1) (fd := { name := "Sort", type := 5, offset := 4, embedded := false, tag := "", pkgPath := "", byteOffset := 25 }) rfl (by kernel_rfl) op5 opensF_nil
 have h1 := opensF_cons (enc := enc) (P := Tryd.prog) (w := w) (total := 5) (off := 3) (k := 1) (fd := { name := "Dir", type := 5, offset := 3, embedded := false, tag := "", pkgPath := "", byteOffset := 24 }) rfl (by kernel_rfl) op5 h2
 have h0 := opensF_cons (enc := enc) (P := Tryd.prog) (w := w) (total := 5) (off := 0) (k := 3) (fd := { name := "At", type := 27, offset := 0, embedded := false, tag := "", pkgPath := "", byteOffset := 0 }) rfl (by kernel_rfl) op27 h1
 exact omap (opens_struct (total:=5) Tryd.underlying96 (by kernel_rfl) h0) (fun a=>(a.1,a.2.1,a.2.2.1)) (fun a=>rfl) (fun a h=>⟨h.1,h.2.1,h.2.2.1⟩)
def of53 (a:List ((Int×Int×Int)×Int×Int)):List V:=[.lst 5 (a.map of96)]
def ok53 (l:List ((Int×Int×Int)×Int×Int)):Prop:=l.length≤maxLen ∧ ∀ x∈l,ok96 x
theorem op53:Opens enc Tryd.prog w 53 of53 ok53:=opens_slice (s:=5) Tryd.underlying53 (by kernel_rfl) (by decide) op96
def of55 (a:List (Int×Int×Int)×List ((Int×Int×Int)×Int×Int)×Int):List V:=[.lst 3 (a.1.map of27),.lst 5 (a.2.1.map of96),.raw (.int .i64 a.2.2)]
def ok55 (a:List (Int×Int×Int)×List ((Int×Int×Int)×Int×Int)×Int):Prop:=ok52 a.1∧ok53 a.2.1∧ok3 a.2.2
theorem op55:Opens enc Tryd.prog w 55 of55 ok55:=by
 have h2 := opensF_cons (enc := enc) (P := Tryd.prog) (w := w) (total := 3) (off := 2) (k := 1) (fd := { name := "Weight", type := 3, offset := 2, embedded := false, tag := "", pkgPath := "", byteOffset := 48 }) rfl (by kernel_rfl) op3 opensF_nil
 have h1 := opensF_cons (enc := enc) (P := Tryd.prog) (w := w) (total := 3) (off := 1) (k := 1) (fd := { name := "Knobs", type := 53, offset := 1, embedded := false, tag := "", pkgPath := "", byteOffset := 24 }) rfl (by kernel_rfl) op53 h2
 have h0 := opensF_cons (enc := enc) (P := Tryd.prog) (w := w) (total := 3) (off := 0) (k := 1) (fd := { name := "Cells", type := 52, offset := 0, embedded := false, tag := "", pkgPath := "", byteOffset := 0 }) rfl (by kernel_rfl) op52 h1
 exact omap (opens_struct (total:=3) Tryd.underlying55 (by kernel_rfl) h0) (fun a=>(a.1,a.2.1,a.2.2.1)) (fun a=>rfl) (fun a h=>⟨h.1,h.2.1,h.2.2.1⟩)
def of22 (a:List (List (Int×Int×Int)×List ((Int×Int×Int)×Int×Int)×Int)):List V:=[.lst 3 (a.map of55)]
def ok22 (l:List (List (Int×Int×Int)×List ((Int×Int×Int)×Int×Int)×Int)):Prop:=l.length≤maxLen ∧ ∀ x∈l,ok55 x
theorem op22:Opens enc Tryd.prog w 22 of22 ok22:=opens_slice (s:=3) Tryd.underlying22 (by kernel_rfl) (by decide) op55
def of50 (a:Int×(Int×Int×Int)×Int×Int):List V:=[.raw (.int .i64 a.1),.raw (.int .i64 a.2.1.1),.raw (.int .i64 a.2.1.2.1),.raw (.int .i64 a.2.1.2.2),.raw (.int .u8 a.2.2.1),.raw (.int .u8 a.2.2.2)]
def ok50 (a:Int×(Int×Int×Int)×Int×Int):Prop:=ok3 a.1∧ok27 a.2.1∧ok5 a.2.2.1∧ok5 a.2.2.2
theorem op50:Opens enc Tryd.prog w 50 of50 ok50:=by
 have h3 := opensF_cons (enc := enc) (P := Tryd.prog) (w := w) (total := 6) (off := 5) (k := 1) (fd := { name := "Color", type := 5, offset := 5, embedded := false, tag := "", pkgPath := "", byteOffset := 33 }) rfl (by kernel_rfl) op5 opensF_nil
 have h2 := opensF_cons (enc := enc) (P := Tryd.prog) (w := w) (total := 6) (off := 4) (k := 1) (fd := { name := "Turn", type := 5, offset := 4, embedded := false, tag := "", pkgPath := "", byteOffset := 32 }) rfl (by kernel_rfl) op5 h3
 have h1 := opensF_cons (enc := enc) (P := Tryd.prog) (w := w) (total := 6) (off := 1) (k := 3) (fd := { name := "At", type := 27, offset := 1, embedded := false, tag := "", pkgPath := "", byteOffset := 8 }) rfl (by kernel_rfl) op27 h2
 have h0 := opensF_cons (enc := enc) (P := Tryd.prog) (w := w) (total := 6) (off := 0) (k := 1) (fd := { name := "Kind", type := 3, offset := 0, embedded := false, tag := "", pkgPath := "", byteOffset := 0 }) rfl (by kernel_rfl) op3 h1
 exact omap (opens_struct (total:=6) Tryd.underlying50 (by kernel_rfl) h0) (fun a=>(a.1,a.2.1,a.2.2.1,a.2.2.2.1)) (fun a=>rfl) (fun a h=>⟨h.1,h.2.1,h.2.2.1,h.2.2.2.1⟩)
def of23 (a:List (Int×(Int×Int×Int)×Int×Int)):List V:=[.lst 6 (a.map of50)]
def ok23 (l:List (Int×(Int×Int×Int)×Int×Int)):Prop:=l.length≤maxLen ∧ ∀ x∈l,ok50 x
theorem op23:Opens enc Tryd.prog w 23 of23 ok23:=opens_slice (s:=6) Tryd.underlying23 (by kernel_rfl) (by decide) op50
def of25 (a:List (Int×(Int×Int×Int)×Int×Int)):List V:=[.lst 6 (a.map of50)]
def ok25 (a:List (Int×(Int×Int×Int)×Int×Int)):Prop:=ok23 a
theorem op25:Opens enc Tryd.prog w 25 of25 ok25:=by
 have h0 := opensF_cons (enc := enc) (P := Tryd.prog) (w := w) (total := 1) (off := 0) (k := 1) (fd := { name := "Bricks", type := 23, offset := 0, embedded := false, tag := "", pkgPath := "", byteOffset := 0 }) rfl (by kernel_rfl) op23 opensF_nil
 exact omap (opens_struct (total:=1) Tryd.underlying25 (by kernel_rfl) h0) (fun a=>a.1) (fun a=>rfl) (fun a h=>h.1)
end
theorem wf_u8 {n:Int} (h:(Lit.int .u8 n).wf=true):0≤n∧n≤255:=by
 simp [Lit.wf,IntKind.min,IntKind.max,IntKind.signed,IntKind.bits] at h
 omega
theorem kn57 {a:(Int×Int×Int)×Int×Int} (h:ok96 a):KnR a:=⟨wf_u8 h.2.1,wf_u8 h.2.2⟩
theorem kd25 {a:List (Int×Int×Int)×List ((Int×Int×Int)×Int×Int)×Int} (h:ok55 a) : ∀ x∈a.2.1,KnR x:=fun x hx=>kn57 (h.2.1.2 x hx)
theorem bk30 {a:Int×(Int×Int×Int)×Int×Int} (h:ok50 a):BkR a:=⟨wf_u8 h.2.2.1,wf_u8 h.2.2.2⟩
theorem said3 {x0:List (List (Int×Int×Int)×List ((Int×Int×Int)×Int×Int)×Int)} {x1:List (Int×(Int×Int×Int)×Int×Int)} {x2:Int} {x3:Int×Int×Int} (ok0_:ok22 x0) (ok1_:ok25 x1) (ok2_:ok3 x2) (ok3_:ok27 x3):K0G Tryd.prog glX 3 [.lst 3 (x0.map of55),.agg (of25 x1),.raw (.int .i64 x2),.agg (of27 x3)] (fun v=>v=bv true) :=
 law3 (l:=x0) (m:=x1) (n:=x2) (d:=x3) (fun q hq=>kd25 (ok0_.2 q hq)) (fun b hb=>bk30 (ok1_.2 b hb)) rfl
theorem own:ownKnob Tryd.prog.godebug=none:=by kernel_rfl
theorem laidOut:laidOutB Tryd.prog=true:=by kernel_rfl
set_option maxRecDepth 100000 in
theorem contract (H:Type) (enc:TypeId×Value→H) (W:World) (base:Nat) (args:Array Value) (ds gs:List (DataW H)) (before:List MemPlace)
  (hval : ∀ (j:Nat) t v,Tryd.f3.params[j]? = some t→args[j]? = some v→Value.okWide Tryd.prog W .any base t v)
  (hW:DataW.Whole enc Tryd.prog Tryd.f3.params.toList Rows.latticeModelsSpec.vars false W args.toList ds gs before) (hL:laidMetH Tryd.prog Rows.latticeModelsRow.laid W) :
  Calls Tryd.prog 3 args W fun e W' => ∃ v,e = .returned v∧Rows.latticeModelsSpec.post enc Tryd.prog Tryd.f3 false true false false W args v W' := by
 have hW' := hW
 obtain ⟨p,q,hA0,hV,rfl,hfz,hnd⟩:=hW
 have hA:DataW.TrodAll enc Tryd.prog W 0 (fun _=>true) true Tryd.f3.params.toList args.toList ds p:=hA0
 rw [Tryd.params3] at hA hval
 obtain ⟨v0,v1,v2,v3,d0,d1,d2,d3,p0,p1,p2,p3,rfl,rfl,rfl,h0,h1,h2,h3⟩:=trodAll_four hA
 obtain ⟨rfl,rfl⟩:=trodVars_none hV
 clear hA0
 obtain ⟨x0,r0,ok0_⟩:=arg_slice Tryd.underlying22 (hval 0 22 v0 rfl rfl) h0 op22
 obtain ⟨x1,r1,ok1_⟩:=arg_struct Tryd.underlying25 (hval 1 25 v1 rfl rfl) h1 op25
 obtain ⟨x2,r2,ok2_⟩:=arg_int Tryd.underlying3 (hval 2 3 v2 rfl rfl) h2
 obtain ⟨x3,r3,ok3_⟩:=arg_struct Tryd.underlying27 (hval 3 27 v3 rfl rfl) h3 op27
 have hlaw:=said3 ok0_ ok1_ ok2_ ok3_
 have hrun:=hlaw (FW W) W [v0,v1,v2,v3] (fun r h=>h) (fun g cs h=>by
  unfold glX at h
  split at h
  ·cases h; exact laid_adr (by kernel_rfl) hL (n := "studwork/lattice.steps") (d := Rows.laid_studwork_lattice_steps) (by simp [Rows.latticeModelsRow]) ⟨by kernel_rfl, by kernel_rfl⟩ (by simp [stepC])
  ·cases h) (by simp only [riL]; exact ⟨v0,[v1,v2,v3],rfl,r0,⟨v1,[v2,v3],rfl,r1,⟨v2,[v3],rfl,r2,⟨v3,[],rfl,r3,rfl⟩⟩⟩⟩)
 refine hrun.mono fun e W' he=>?_
 obtain ⟨x,v,F', rfl,rfl,hx,hb,_⟩:=he
 have hx' : x = .bool true:=by simpa [bv,ri] using hx
 subst hx'
 have hlt : ∀ y∈p0++p1++p2++p3,y.block<W.heap.size:=fun y hy=>by
  have:=hW'.lt y (by simpa using hy)
  exact this
 simp only [List.append_nil] at hW'
 exact ⟨_,rfl,_,_,_,[],_,[],hW', trodAll_mk1 (shut_bool Tryd.underlying4 _),
  trodAll_mk4 (Below.trod laidOut (by kernel_rfl) (of_decide_eq_true (by kernel_rfl)) h0 hb.toBelow (fun y hy=>hlt y (by simp [hy]))) (Below.trod laidOut (by kernel_rfl) (of_decide_eq_true (by kernel_rfl)) h1 hb.toBelow (fun y hy=>hlt y (by simp [hy]))) (Below.trod laidOut (by kernel_rfl) (of_decide_eq_true (by kernel_rfl)) h2 hb.toBelow (fun y hy=>hlt y (by simp [hy]))) (Below.trod laidOut (by kernel_rfl) (of_decide_eq_true (by kernel_rfl)) h3 hb.toBelow (fun y hy=>hlt y (by simp [hy]))),rfl,hb.frame _,fun h=>by cases h⟩
noncomputable def laidWorld (os:Os):World :=
 { World.holding Tryd.prog os ⟨#[], #[],[]⟩ with heap:=(World.holding Tryd.prog os ⟨#[], #[],[]⟩).heap.modify 0 (fun
   | .cells _ t frozen => .cells #[.int .i64 1,.int .i64 0,.int .i64 0,.int .i64 (-1),.int .i64 0,.int .i64 0,.int .i64 0,.int .i64 1,.int .i64 0,.int .i64 0,.int .i64 (-1),.int .i64 0,.int .i64 0,.int .i64 0,.int .i64 1,.int .i64 0,.int .i64 0,.int .i64 (-1)] t frozen
   | o=>o) }
theorem laid_met (os:Os):laidMet Tryd.prog Rows.latticeModelsRow.laid ((laidWorld os).forCall (fun _ _=>0) ⟨#[], #[.slice none 0 0,.agg #[.slice none 0 0],.int .i64 0,.agg #[.int .i64 0,.int .i64 0,.int .i64 0]],[]⟩).memory :=
 laidMet_of_run' 8 (by kernel_rfl) (by kernel_rfl)
theorem reads (os:Os) {H:Type} (enc:TypeId×Value→H) : ∃ dd places,DataW.whole enc Tryd.prog ((laidWorld os).forCall (fun _ _=>0) ⟨#[], #[.slice none 0 0,.agg #[.slice none 0 0],.int .i64 0,.agg #[.int .i64 0,.int .i64 0,.int .i64 0]],[]⟩).memory Tryd.f3.params.toList Rows.latticeModelsSpec.vars false (#[.slice none 0 0,.agg #[.slice none 0 0],.int .i64 0,.agg #[.int .i64 0,.int .i64 0,.int .i64 0]]:Array Value).toList 8=some (dd,[],places) :=
 ⟨[.nil,.agg [.nil],.lit (.int .i64 0),.agg [.lit (.int .i64 0),.lit (.int .i64 0),.lit (.int .i64 0)]],[],by kernel_rfl⟩
set_option maxRecDepth 100000 in
theorem lifted (os:Os) (started:os.Started) (H:Type) (enc:TypeId×Value→H) (F:Stop.Interp) :
  ReturnsInHanded {} Tryd.checked os 3 .any ((OpenSpec.ofChange Rows.latticeModelsSpec).preRow enc Tryd.prog Tryd.f3 Rows.latticeModelsRow.domain false Rows.latticeModelsRow.laid) (((OpenSpec.ofChange Rows.latticeModelsSpec).at F).post enc Tryd.prog Tryd.f3 false true false false):=by
 obtain ⟨dd,places,hx⟩:=reads os enc
 refine returnsInHanded_of_row (C:=Tryd.checked) (s:=OpenSpec.ofChange Rows.latticeModelsSpec) own started (by kernel_rfl) Tryd.func3
  (witness_row_at (enc:=enc) (C:=Tryd.checked) false (laidWorld os) #[.slice none 0 0,.agg #[.slice none 0 0],.int .i64 0,.agg #[.int .i64 0,.int .i64 0,.int .i64 0]] rfl (by kernel_rfl) (by kernel_rfl) (by kernel_rfl)
   (OpenSpec.preRow_of_cond 8 hx (by kernel_rfl) (fun k hk=>by cases hk) (by kernel_rfl) (laid_met os))) ?_
 intro W base args ds gs before hval hW _ _ _ hL _ _
 exact contract H enc W base args ds gs before hval hW hL
theorem bare:Rows.LatticeModelsSaid :=
 OpenClaim.holds_of_cond 3 Tryd.f3 rfl rfl rfl rfl rfl rfl rfl ⟨rfl,rfl,rfl,rfl,rfl⟩ rfl rfl rfl rfl rfl (by kernel_rfl) Tryd.func3 (by kernel_rfl)
  (of_decide_eq_true (by kernel_rfl)) (by unfold Func.isWrapper; first | (rw [if_pos (by decide +kernel)]; kernel_rfl) | (rw [if_neg (by decide +kernel)]; exact ⟨rfl,rfl⟩))
  (fun os started H enc _ F=>by rw [OpenClaim.pre_eq_preRow]; exact lifted os started H enc F)
theorem plain (f:FuncId) (fn:Func) (hf:Tryd.pinned.checked.prog.funcNamed Rows.latticeModelsRow.func=some f) (hfn:Tryd.pinned.checked.prog.funcs[f]? = some fn) :
  false=Tryd.pinned.checked.prog.looks [] ∧ ∀ (j:Nat) t,fn.params[j]? = some t→Tryd.pinned.checked.prog.wantsStandIn t=false:=by
 obtain rfl:f=3:=Option.some.inj ((show Tryd.prog.funcNamed Rows.latticeModelsRow.func=some 3 by kernel_rfl).symm.trans hf) |>.symm
 obtain rfl:fn=Tryd.f3:=(Option.some.inj (Tryd.func3.symm.trans hfn)).symm
 refine ⟨by kernel_rfl,fun j t ht=>?_⟩
 rw [Tryd.params3] at ht
 have hm:t∈[22,25,3,27]:=by
  have:=Array.mem_of_getElem? ht
  simp at this ⊢
  exact this
 have hall:([22,25,3,27].all fun u => !Tryd.prog.wantsStandIn u)=true:=by kernel_rfl
 exact (show Tryd.prog.wantsStandIn t=false by simpa using List.all_eq_true.1 hall t hm)
theorem said:Rows.LatticeModelsCardSaid :=
 Claim7.holds_tied_plain_at .later [] _ _ _ _ bare (fun _ h=>by cases h) (by kernel_rfl) (fun _ h=>by cases h) latticeModels_row_tie rfl ⟨rfl,rfl⟩ (by kernel_rfl) rfl plain (by kernel_rfl)
end Go.Proofs.YtbionhgjgcpogaaDoor
