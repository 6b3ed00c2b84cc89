/- Proved here: the law LatticeApart returns true for every argument, and leaves its arguments as they were. Conditions: the listed package-level variables hold their literals when the call begins (the card ties this to the program's text). -/
import Derived.Test.YtbionhgjgcpogaaGreatDoorCards
import Derived.Test.YtbionhgjgcpogaaGreatDoorTie
import Derived.ProofKit
import Derived.LaidHandle
import Derived.Deep.DeepHandedRow
import Derived.Carry
import Derived.Test.YtbionhgjgcpogaaGreatDoorXT6G19
import Derived.Test.YtbionhgjgcpogaaGreatDoorXT6G20
namespace Go.Proofs.YtbionhgjgcpogaaGreatDoor
open Go Go.Proofs.YtbionhgjgcpogaaGreatDoor.Clean Go.ChangeShapes Go.WideShapes Go.ChangeAt Go.RowKit
set_option linter.unusedVariables false
set_option maxRecDepth 100000
section
variable {H:Type} {enc:TypeId×Value→H} {w:World}
theorem omap {P:Program} {t:TypeId} {α β:Type} {f:α→List V} {g:β→List V} {ok:α→Prop} {ok' : β→Prop} (h:Opens enc P w t f ok) (m:α→β) (hf : ∀ a,f a=g (m a)) (ho : ∀ a,ok a→ok' (m a)):Opens enc P w t g ok' := by
 intro fuel cs x hx
 obtain ⟨a,h1,h2,h3⟩:=h fuel cs x hx
 exact ⟨m a,hf a ▸ h1,ho a h2,h3⟩
def of3 (a:Int):List V:=[.raw (.int .i64 a)]
def ok3 (a:Int):Prop:=(Lit.int .i64 a).wf=true
theorem op3:Opens enc Tryz.prog w 3 of3 ok3:=opens_int Tryz.underlying3
def of28 (a:Int×Int×Int):List V:=[.raw (.int .i64 a.1),.raw (.int .i64 a.2.1),.raw (.int .i64 a.2.2)]
def ok28 (a:Int×Int×Int):Prop:=ok3 a.1∧ok3 a.2.1∧ok3 a.2.2
theorem op28:Opens enc Tryz.prog w 28 of28 ok28:=by
 have h2 := opensF_cons (enc := enc) (P := Tryz.prog) (w := w) (total := 3) (off := 2) (k := 1) (fd := { name := "Z", type := 3, offset := 2, embedded := false, tag := "", pkgPath := "", byteOffset := 16 }) rfl (by kernel_rfl) op3 opensF_nil
 have h1 := opensF_cons (enc := enc) (P := Tryz.prog) (w := w) (total := 3) (off := 1) (k := 1) (fd := { name := "Y", type := 3, offset := 1, embedded := false, tag := "", pkgPath := "", byteOffset := 8 }) rfl (by kernel_rfl) op3 h2
 have h0 := opensF_cons (enc := enc) (P := Tryz.prog) (w := w) (total := 3) (off := 0) (k := 1) (fd := { name := "X", type := 3, offset := 0, embedded := false, tag := "", pkgPath := "", byteOffset := 0 }) rfl (by kernel_rfl) op3 h1
 exact omap (opens_struct (total:=3) Tryz.underlying28 (by kernel_rfl) h0) (fun a=>(a.1,a.2.1,a.2.2.1)) (fun a=>rfl) (fun a h=>⟨h.1,h.2.1,h.2.2.1⟩)
def of22 (a:List (Int×Int×Int)):List V:=[.lst 3 (a.map of28)]
def ok22 (l:List (Int×Int×Int)):Prop:=l.length≤maxLen ∧ ∀ x∈l,ok28 x
theorem op22:Opens enc Tryz.prog w 22 of22 ok22:=opens_slice (s:=3) Tryz.underlying22 (by kernel_rfl) (by decide) op28
def of5 (a:Int):List V:=[.raw (.int .u8 a)]
def ok5 (a:Int):Prop:=(Lit.int .u8 a).wf=true
theorem op5:Opens enc Tryz.prog w 5 of5 ok5:=opens_int Tryz.underlying5
def of57 (a:(Int×Int×Int)×Int×Int):List V:=[.raw (.int .i64 a.1.1),.raw (.int .i64 a.1.2.1),.raw (.int .i64 a.1.2.2),.raw (.int .u8 a.2.1),.raw (.int .u8 a.2.2)]
def ok57 (a:(Int×Int×Int)×Int×Int):Prop:=ok28 a.1∧ok5 a.2.1∧ok5 a.2.2
theorem op57:Opens enc Tryz.prog w 57 of57 ok57:=by
 have h2 := opensF_cons (enc := enc) (P := Tryz.prog) (w := w) (total := 5) (off := 4) (k := 1) (fd := { name := "Sort", type := 5, offset := 4, embedded := false, tag := "", pkgPath := "", byteOffset := 25 }) rfl (by kernel_rfl) op5 opensF_nil
 have h1 := opensF_cons (enc := enc) (P := Tryz.prog) (w := w) (total := 5) (off := 3) (k := 1) (fd := { name := "Dir", type := 5, offset := 3, embedded := false, tag := "", pkgPath := "", byteOffset := 24 }) rfl (by kernel_rfl) op5 h2
 have h0 := opensF_cons (enc := enc) (P := Tryz.prog) (w := w) (total := 5) (off := 0) (k := 3) (fd := { name := "At", type := 28, offset := 0, embedded := false, tag := "", pkgPath := "", byteOffset := 0 }) rfl (by kernel_rfl) op28 h1
 exact omap (opens_struct (total:=5) Tryz.underlying57 (by kernel_rfl) h0) (fun a=>(a.1,a.2.1,a.2.2.1)) (fun a=>rfl) (fun a h=>⟨h.1,h.2.1,h.2.2.1⟩)
def of23 (a:List ((Int×Int×Int)×Int×Int)):List V:=[.lst 5 (a.map of57)]
def ok23 (l:List ((Int×Int×Int)×Int×Int)):Prop:=l.length≤maxLen ∧ ∀ x∈l,ok57 x
theorem op23:Opens enc Tryz.prog w 23 of23 ok23:=opens_slice (s:=5) Tryz.underlying23 (by kernel_rfl) (by decide) op57
def of25 (a:List (Int×Int×Int)×List ((Int×Int×Int)×Int×Int)×Int):List V:=[.lst 3 (a.1.map of28),.lst 5 (a.2.1.map of57),.raw (.int .i64 a.2.2)]
def ok25 (a:List (Int×Int×Int)×List ((Int×Int×Int)×Int×Int)×Int):Prop:=ok22 a.1∧ok23 a.2.1∧ok3 a.2.2
theorem op25:Opens enc Tryz.prog w 25 of25 ok25:=by
 have h2 := opensF_cons (enc := enc) (P := Tryz.prog) (w := w) (total := 3) (off := 2) (k := 1) (fd := { name := "Weight", type := 3, offset := 2, embedded := false, tag := "", pkgPath := "", byteOffset := 48 }) rfl (by kernel_rfl) op3 opensF_nil
 have h1 := opensF_cons (enc := enc) (P := Tryz.prog) (w := w) (total := 3) (off := 1) (k := 1) (fd := { name := "Knobs", type := 23, offset := 1, embedded := false, tag := "", pkgPath := "", byteOffset := 24 }) rfl (by kernel_rfl) op23 h2
 have h0 := opensF_cons (enc := enc) (P := Tryz.prog) (w := w) (total := 3) (off := 0) (k := 1) (fd := { name := "Cells", type := 22, offset := 0, embedded := false, tag := "", pkgPath := "", byteOffset := 0 }) rfl (by kernel_rfl) op22 h1
 exact omap (opens_struct (total:=3) Tryz.underlying25 (by kernel_rfl) h0) (fun a=>(a.1,a.2.1,a.2.2.1)) (fun a=>rfl) (fun a h=>⟨h.1,h.2.1,h.2.2.1⟩)
def of26 (a:List (List (Int×Int×Int)×List ((Int×Int×Int)×Int×Int)×Int)):List V:=[.lst 3 (a.map of25)]
def ok26 (l:List (List (Int×Int×Int)×List ((Int×Int×Int)×Int×Int)×Int)):Prop:=l.length≤maxLen ∧ ∀ x∈l,ok25 x
theorem op26:Opens enc Tryz.prog w 26 of26 ok26:=opens_slice (s:=3) Tryz.underlying26 (by kernel_rfl) (by decide) op25
def of30 (a:Int×(Int×Int×Int)×Int×Int):List V:=[.raw (.int .i64 a.1),.raw (.int .i64 a.2.1.1),.raw (.int .i64 a.2.1.2.1),.raw (.int .i64 a.2.1.2.2),.raw (.int .u8 a.2.2.1),.raw (.int .u8 a.2.2.2)]
def ok30 (a:Int×(Int×Int×Int)×Int×Int):Prop:=ok3 a.1∧ok28 a.2.1∧ok5 a.2.2.1∧ok5 a.2.2.2
theorem op30:Opens enc Tryz.prog w 30 of30 ok30:=by
 have h3 := opensF_cons (enc := enc) (P := Tryz.prog) (w := w) (total := 6) (off := 5) (k := 1) (fd := { name := "Color", type := 5, offset := 5, embedded := false, tag := "", pkgPath := "", byteOffset := 33 }) rfl (by kernel_rfl) op5 opensF_nil
 have h2 := opensF_cons (enc := enc) (P := Tryz.prog) (w := w) (total := 6) (off := 4) (k := 1) (fd := { name := "Turn", type := 5, offset := 4, embedded := false, tag := "", pkgPath := "", byteOffset := 32 }) rfl (by kernel_rfl) op5 h3
 have h1 := opensF_cons (enc := enc) (P := Tryz.prog) (w := w) (total := 6) (off := 1) (k := 3) (fd := { name := "At", type := 28, offset := 1, embedded := false, tag := "", pkgPath := "", byteOffset := 8 }) rfl (by kernel_rfl) op28 h2
 have h0 := opensF_cons (enc := enc) (P := Tryz.prog) (w := w) (total := 6) (off := 0) (k := 1) (fd := { name := "Kind", type := 3, offset := 0, embedded := false, tag := "", pkgPath := "", byteOffset := 0 }) rfl (by kernel_rfl) op3 h1
 exact omap (opens_struct (total:=6) Tryz.underlying30 (by kernel_rfl) h0) (fun a=>(a.1,a.2.1,a.2.2.1,a.2.2.2.1)) (fun a=>rfl) (fun a h=>⟨h.1,h.2.1,h.2.2.1,h.2.2.2.1⟩)
def of32 (a:List (Int×(Int×Int×Int)×Int×Int)):List V:=[.lst 6 (a.map of30)]
def ok32 (l:List (Int×(Int×Int×Int)×Int×Int)):Prop:=l.length≤maxLen ∧ ∀ x∈l,ok30 x
theorem op32:Opens enc Tryz.prog w 32 of32 ok32:=opens_slice (s:=6) Tryz.underlying32 (by kernel_rfl) (by decide) op30
def of34 (a:List (Int×(Int×Int×Int)×Int×Int)):List V:=[.lst 6 (a.map of30)]
def ok34 (a:List (Int×(Int×Int×Int)×Int×Int)):Prop:=ok32 a
theorem op34:Opens enc Tryz.prog w 34 of34 ok34:=by
 have h0 := opensF_cons (enc := enc) (P := Tryz.prog) (w := w) (total := 1) (off := 0) (k := 1) (fd := { name := "Bricks", type := 32, offset := 0, embedded := false, tag := "", pkgPath := "", byteOffset := 0 }) rfl (by kernel_rfl) op32 opensF_nil
 exact omap (opens_struct (total:=1) Tryz.underlying34 (by kernel_rfl) h0) (fun a=>a.1) (fun a=>rfl) (fun a h=>h.1)
end
theorem wf_u8 {n:Int} (h:(Lit.int .u8 n).wf=true):0≤n∧n≤255:=by
 simp [Lit.wf,IntKind.min,IntKind.max,IntKind.signed,IntKind.bits] at h
 omega
theorem kn57 {a:(Int×Int×Int)×Int×Int} (h:ok57 a):KnR a:=⟨wf_u8 h.2.1,wf_u8 h.2.2⟩
theorem kd25 {a:List (Int×Int×Int)×List ((Int×Int×Int)×Int×Int)×Int} (h:ok25 a) : ∀ x∈a.2.1,KnR x:=fun x hx=>kn57 (h.2.1.2 x hx)
theorem bk30 {a:Int×(Int×Int×Int)×Int×Int} (h:ok30 a):BkR a:=⟨wf_u8 h.2.2.1,wf_u8 h.2.2.2⟩
theorem said6 {x0:List (List (Int×Int×Int)×List ((Int×Int×Int)×Int×Int)×Int)} {x1:List (Int×(Int×Int×Int)×Int×Int)} (ok0_:ok26 x0) (ok1_:ok34 x1):K0G Tryz.prog glX 6 [.lst 3 (x0.map of25),.agg (of34 x1)] (fun v=>v=bv true) :=
 law6 (l:=x0) (m:=x1) (fun q hq=>kd25 (ok0_.2 q hq)) (fun b hb=>bk30 (ok1_.2 b hb)) rfl
theorem own:ownKnob Tryz.prog.godebug=none:=by kernel_rfl
theorem laidOut:laidOutB Tryz.prog=true:=by kernel_rfl
set_option maxRecDepth 100000 in
theorem contract (H:Type) (enc:TypeId×Value→H) (W:World) (base:Nat) (args:Array Value) (ds gs:List (DataW H)) (before:List MemPlace)
  (hval : ∀ (j:Nat) t v,Tryz.f6.params[j]? = some t→args[j]? = some v→Value.okWide Tryz.prog W .any base t v)
  (hW:DataW.Whole enc Tryz.prog Tryz.f6.params.toList Rows.latticeApartSpec.vars false W args.toList ds gs before) (hL:laidMetH Tryz.prog Rows.latticeApartRow.laid W) :
  Calls Tryz.prog 6 args W fun e W' => ∃ v,e = .returned v∧Rows.latticeApartSpec.post enc Tryz.prog Tryz.f6 false true false false W args v W' := by
 have hW' := hW
 obtain ⟨p,q,hA0,hV,rfl,hfz,hnd⟩:=hW
 have hA:DataW.TrodAll enc Tryz.prog W 0 (fun _=>true) true Tryz.f6.params.toList args.toList ds p:=hA0
 rw [Tryz.params6] at hA hval
 obtain ⟨v0,v1,d0,d1,p0,p1,rfl,rfl,rfl,h0,h1⟩:=trodAll_two hA
 obtain ⟨rfl,rfl⟩:=trodVars_none hV
 clear hA0
 obtain ⟨x0,r0,ok0_⟩:=arg_slice Tryz.underlying26 (hval 0 26 v0 rfl rfl) h0 op26
 obtain ⟨x1,r1,ok1_⟩:=arg_struct Tryz.underlying34 (hval 1 34 v1 rfl rfl) h1 op34
 have hlaw:=said6 ok0_ ok1_
 have hrun:=hlaw (FW W) W [v0,v1] (fun r h=>h) (fun g cs h=>by
  unfold glX at h
  split at h
  ·cases h; exact laid_adr (by kernel_rfl) hL (n := "studwork/lattice.steps") (d := Rows.laid_studwork_lattice_steps) (by simp [Rows.latticeApartRow]) ⟨by kernel_rfl, by kernel_rfl⟩ (by simp [stepC])
  ·cases h) (by simp only [riL]; exact ⟨v0,[v1],rfl,r0,⟨v1,[],rfl,r1,rfl⟩⟩)
 refine hrun.mono fun e W' he=>?_
 obtain ⟨x,v,F', rfl,rfl,hx,hb,_⟩:=he
 have hx' : x = .bool true:=by simpa [bv,ri] using hx
 subst hx'
 have hlt : ∀ y∈p0++p1,y.block<W.heap.size:=fun y hy=>by
  have:=hW'.lt y (by simpa using hy)
  exact this
 simp only [List.append_nil] at hW'
 exact ⟨_,rfl,_,_,_,[],_,[],hW', trodAll_mk1 (shut_bool Tryz.underlying4 _),
  trodAll_mk2 (Below.trod laidOut (by kernel_rfl) (of_decide_eq_true (by kernel_rfl)) h0 hb.toBelow (fun y hy=>hlt y (by simp [hy]))) (Below.trod laidOut (by kernel_rfl) (of_decide_eq_true (by kernel_rfl)) h1 hb.toBelow (fun y hy=>hlt y (by simp [hy]))),rfl,hb.frame _,fun h=>by cases h⟩
noncomputable def laidWorld (os:Os):World :=
 { World.holding Tryz.prog os ⟨#[], #[],[]⟩ with heap:=(World.holding Tryz.prog os ⟨#[], #[],[]⟩).heap.modify 0 (fun
   | .cells _ t frozen => .cells #[.int .i64 1,.int .i64 0,.int .i64 0,.int .i64 (-1),.int .i64 0,.int .i64 0,.int .i64 0,.int .i64 1,.int .i64 0,.int .i64 0,.int .i64 (-1),.int .i64 0,.int .i64 0,.int .i64 0,.int .i64 1,.int .i64 0,.int .i64 0,.int .i64 (-1)] t frozen
   | o=>o) }
theorem laid_met (os:Os):laidMet Tryz.prog Rows.latticeApartRow.laid ((laidWorld os).forCall (fun _ _=>0) ⟨#[], #[.slice none 0 0,.agg #[.slice none 0 0]],[]⟩).memory :=
 laidMet_of_run' 8 (by kernel_rfl) (by kernel_rfl)
theorem reads (os:Os) {H:Type} (enc:TypeId×Value→H) : ∃ dd places,DataW.whole enc Tryz.prog ((laidWorld os).forCall (fun _ _=>0) ⟨#[], #[.slice none 0 0,.agg #[.slice none 0 0]],[]⟩).memory Tryz.f6.params.toList Rows.latticeApartSpec.vars false (#[.slice none 0 0,.agg #[.slice none 0 0]]:Array Value).toList 8=some (dd,[],places) :=
 ⟨[.nil,.agg [.nil]],[],by kernel_rfl⟩
set_option maxRecDepth 100000 in
theorem lifted (os:Os) (started:os.Started) (H:Type) (enc:TypeId×Value→H) (F:Stop.Interp) :
  ReturnsInHanded {} Tryz.checked os 6 .any ((OpenSpec.ofChange Rows.latticeApartSpec).preRow enc Tryz.prog Tryz.f6 Rows.latticeApartRow.domain false Rows.latticeApartRow.laid) (((OpenSpec.ofChange Rows.latticeApartSpec).at F).post enc Tryz.prog Tryz.f6 false true false false):=by
 obtain ⟨dd,places,hx⟩:=reads os enc
 refine returnsInHanded_of_row (C:=Tryz.checked) (s:=OpenSpec.ofChange Rows.latticeApartSpec) own started (by kernel_rfl) Tryz.func6
  (witness_row_at (enc:=enc) (C:=Tryz.checked) false (laidWorld os) #[.slice none 0 0,.agg #[.slice none 0 0]] rfl (by kernel_rfl) (by kernel_rfl) (by kernel_rfl)
   (OpenSpec.preRow_of_cond 8 hx (by kernel_rfl) (fun k hk=>by cases hk) (by kernel_rfl) (laid_met os))) ?_
 intro W base args ds gs before hval hW _ _ _ hL _ _
 exact contract H enc W base args ds gs before hval hW hL
theorem bare:Rows.LatticeApartSaid :=
 OpenClaim.holds_of_cond 6 Tryz.f6 rfl rfl rfl rfl rfl rfl rfl ⟨rfl,rfl,rfl,rfl,rfl⟩ rfl rfl rfl rfl rfl (by kernel_rfl) Tryz.func6 (by kernel_rfl)
  (of_decide_eq_true (by kernel_rfl)) (by unfold Func.isWrapper; first | (rw [if_pos (by decide +kernel)]; kernel_rfl) | (rw [if_neg (by decide +kernel)]; exact ⟨rfl,rfl⟩))
  (fun os started H enc _ F=>by rw [OpenClaim.pre_eq_preRow]; exact lifted os started H enc F)
theorem plain (f:FuncId) (fn:Func) (hf:Tryz.pinned.checked.prog.funcNamed Rows.latticeApartRow.func=some f) (hfn:Tryz.pinned.checked.prog.funcs[f]? = some fn) :
  false=Tryz.pinned.checked.prog.looks [] ∧ ∀ (j:Nat) t,fn.params[j]? = some t→Tryz.pinned.checked.prog.wantsStandIn t=false:=by
 obtain rfl:f=6:=Option.some.inj ((show Tryz.prog.funcNamed Rows.latticeApartRow.func=some 6 by kernel_rfl).symm.trans hf) |>.symm
 obtain rfl:fn=Tryz.f6:=(Option.some.inj (Tryz.func6.symm.trans hfn)).symm
 refine ⟨by kernel_rfl,fun j t ht=>?_⟩
 rw [Tryz.params6] at ht
 have hm:t∈[26,34]:=by
  have:=Array.mem_of_getElem? ht
  simp at this ⊢
  exact this
 have hall:([26,34].all fun u => !Tryz.prog.wantsStandIn u)=true:=by kernel_rfl
 exact (show Tryz.prog.wantsStandIn t=false by simpa using List.all_eq_true.1 hall t hm)
theorem said:Rows.LatticeApartCardSaid :=
 Claim7.holds_tied_plain_at .later [] _ _ _ _ bare (fun _ h=>by cases h) (by kernel_rfl) (fun _ h=>by cases h) latticeApart_row_tie rfl ⟨rfl,rfl⟩ (by kernel_rfl) rfl plain (by kernel_rfl)
end Go.Proofs.YtbionhgjgcpogaaGreatDoor
