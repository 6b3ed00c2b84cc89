/- Proved here: the law BoxPlans returns true for every argument, and leaves its arguments as they were. No conditions. -/
import Derived.Test.YtmddjopahcbefaaRows
import Derived.Test.YtmddjopahcbefaaXW6G14
namespace Go.Proofs.Ytmddjopahcbefaa
open Go Go.Proofs.Ytmddjopahcbefaa.Clean Go.ChangeShapes Go.WideShapes Go.ChangeAt Go.RowKit
set_option linter.unusedVariables false
set_option maxRecDepth 100000
section
variable {H:Type} {enc:TypeId×Value→H} {w:World}
theorem omap {P:Program} {t:TypeId} {α β:Type} {f:α→List V} {g:β→List V} {ok:α→Prop} {ok' : β→Prop} (h:Opens enc P w t f ok) (m:α→β) (hf : ∀ a,f a=g (m a)) (ho : ∀ a,ok a→ok' (m a)):Opens enc P w t g ok' := by
 intro fuel cs x hx
 obtain ⟨a,h1,h2,h3⟩:=h fuel cs x hx
 exact ⟨m a,hf a ▸ h1,ho a h2,h3⟩
def of3 (a:Int):List V:=[.raw (.int .i64 a)]
def ok3 (a:Int):Prop:=(Lit.int .i64 a).wf=true
theorem op3:Opens enc Try.prog w 3 of3 ok3:=opens_int Try.underlying3
def of5 (a:Int):List V:=[.raw (.int .u8 a)]
def ok5 (a:Int):Prop:=(Lit.int .u8 a).wf=true
theorem op5:Opens enc Try.prog w 5 of5 ok5:=opens_int Try.underlying5
def of87 (a:Int×Int×Int):List V:=[.raw (.int .i64 a.1),.raw (.int .u8 a.2.1),.raw (.int .i64 a.2.2)]
def ok87 (a:Int×Int×Int):Prop:=ok3 a.1∧ok5 a.2.1∧ok3 a.2.2
theorem op87:Opens enc Try.prog w 87 of87 ok87:=by
 have h2 := opensF_cons (enc := enc) (P := Try.prog) (w := w) (total := 3) (off := 2) (k := 1) (fd := { name := "N", type := 3, offset := 2, embedded := false, tag := "", pkgPath := "", byteOffset := 16 }) rfl (by kernel_rfl) op3 opensF_nil
 have h1 := opensF_cons (enc := enc) (P := Try.prog) (w := w) (total := 3) (off := 1) (k := 1) (fd := { name := "Color", type := 5, offset := 1, embedded := false, tag := "", pkgPath := "", byteOffset := 8 }) rfl (by kernel_rfl) op5 h2
 have h0 := opensF_cons (enc := enc) (P := Try.prog) (w := w) (total := 3) (off := 0) (k := 1) (fd := { name := "Kind", type := 3, offset := 0, embedded := false, tag := "", pkgPath := "", byteOffset := 0 }) rfl (by kernel_rfl) op3 h1
 exact omap (opens_struct (total:=3) Try.underlying87 (by kernel_rfl) h0) (fun a=>(a.1,a.2.1,a.2.2.1)) (fun a=>rfl) (fun a h=>⟨h.1,h.2.1,h.2.2.1⟩)
def of22 (a:List (Int×Int×Int)):List V:=[.lst 3 (a.map of87)]
def ok22 (l:List (Int×Int×Int)):Prop:=l.length≤maxLen ∧ ∀ x∈l,ok87 x
theorem op22:Opens enc Try.prog w 22 of22 ok22:=opens_slice (s:=3) Try.underlying22 (by kernel_rfl) (by decide) op87
def of58 (a:List (List (Int×Int×Int))):List V:=[.lst 1 (a.map of22)]
def ok58 (l:List (List (Int×Int×Int))):Prop:=l.length≤maxLen ∧ ∀ x∈l,ok22 x
theorem op58:Opens enc Try.prog w 58 of58 ok58:=opens_slice (s:=1) Try.underlying58 (by kernel_rfl) (by decide) op22
def of35 (a:List (Int)):List V:=[.lst 1 (a.map of3)]
def ok35 (l:List (Int)):Prop:=l.length≤maxLen ∧ ∀ x∈l,ok3 x
theorem op35:Opens enc Try.prog w 35 of35 ok35:=opens_slice (s:=1) Try.underlying35 (by kernel_rfl) (by decide) op3
end
theorem said6 {x0:List (Int×Int×Int)} {x1:List (Int×Int×Int)} {x2:List (List (Int×Int×Int))} {x3:List (Int)} (ok0_:ok22 x0) (ok1_:ok22 x1) (ok2_:ok58 x2) (ok3_:ok35 x3):K0 Try.prog 6 [.lst 3 (x0.map of87),.lst 3 (x1.map of87),.lst 1 (x2.map of22),.lst 1 (x3.map of3)] (fun v=>v=bv true) :=
 law6 (a:=x0) (b:=x1) (p:=x2) (v:=x3) ok2_.1 rfl
theorem own:ownKnob Try.prog.godebug=none:=by kernel_rfl
theorem laidOut:laidOutB Try.prog=true:=by kernel_rfl
set_option maxRecDepth 100000 in
theorem contract (H:Type) (enc:TypeId×Value→H) (W:World) (base:Nat) (args:Array Value) (ds gs:List (DataW H)) (before:List MemPlace)
  (hval : ∀ (j:Nat) t v,Try.f6.params[j]? = some t→args[j]? = some v→Value.okWide Try.prog W .any base t v)
  (hW:DataW.Whole enc Try.prog Try.f6.params.toList Rows.boxPlansSpec.vars false W args.toList ds gs before) :
  Calls Try.prog 6 args W fun e W' => ∃ v,e = .returned v∧Rows.boxPlansSpec.post enc Try.prog Try.f6 false true false false W args v W' := by
 have hW' := hW
 obtain ⟨p,q,hA0,hV,rfl,hfz,hnd⟩:=hW
 have hA:DataW.TrodAll enc Try.prog W 0 (fun _=>true) true Try.f6.params.toList args.toList ds p:=hA0
 rw [Try.params6] at hA hval
 obtain ⟨v0,v1,v2,v3,d0,d1,d2,d3,p0,p1,p2,p3,rfl,rfl,rfl,h0,h1,h2,h3⟩:=trodAll_four hA
 obtain ⟨rfl,rfl⟩:=trodVars_none hV
 clear hA0
 obtain ⟨x0,r0,ok0_⟩:=arg_slice Try.underlying22 (hval 0 22 v0 rfl rfl) h0 op22
 obtain ⟨x1,r1,ok1_⟩:=arg_slice Try.underlying22 (hval 1 22 v1 rfl rfl) h1 op22
 obtain ⟨x2,r2,ok2_⟩:=arg_slice Try.underlying58 (hval 2 58 v2 rfl rfl) h2 op58
 obtain ⟨x3,r3,ok3_⟩:=arg_slice Try.underlying35 (hval 3 35 v3 rfl rfl) h3 op35
 have hlaw:=said6 ok0_ ok1_ ok2_ ok3_
 have hrun:=hlaw (FW W) W [v0,v1,v2,v3] (fun r h=>h) (fun g cs h=>by cases h) (by simp only [riL]; exact ⟨v0,[v1,v2,v3],rfl,r0,⟨v1,[v2,v3],rfl,r1,⟨v2,[v3],rfl,r2,⟨v3,[],rfl,r3,rfl⟩⟩⟩⟩)
 refine hrun.mono fun e W' he=>?_
 obtain ⟨x,v,F', rfl,rfl,hx,hb,_⟩:=he
 have hx' : x = .bool true:=by simpa [bv,ri] using hx
 subst hx'
 have hlt : ∀ y∈p0++p1++p2++p3,y.block<W.heap.size:=fun y hy=>by
  have:=hW'.lt y (by simpa using hy)
  exact this
 simp only [List.append_nil] at hW'
 exact ⟨_,rfl,_,_,_,[],_,[],hW', trodAll_mk1 (shut_bool Try.underlying4 _),
  trodAll_mk4 (Below.trod laidOut (by kernel_rfl) (of_decide_eq_true (by kernel_rfl)) h0 hb.toBelow (fun y hy=>hlt y (by simp [hy]))) (Below.trod laidOut (by kernel_rfl) (of_decide_eq_true (by kernel_rfl)) h1 hb.toBelow (fun y hy=>hlt y (by simp [hy]))) (Below.trod laidOut (by kernel_rfl) (of_decide_eq_true (by kernel_rfl)) h2 hb.toBelow (fun y hy=>hlt y (by simp [hy]))) (Below.trod laidOut (by kernel_rfl) (of_decide_eq_true (by kernel_rfl)) h3 hb.toBelow (fun y hy=>hlt y (by simp [hy]))),rfl,hb.frame _,fun h=>by cases h⟩
set_option maxRecDepth 100000 in
theorem lifted (os:Os) (started:os.Started) (H:Type) (enc:TypeId×Value→H) :
  ReturnsInHanded {} Try.checked os 6 .any (Rows.boxPlansSpec.pre6 enc Try.prog Try.f6 Rows.boxPlansRow.domain false) (Rows.boxPlansSpec.post enc Try.prog Try.f6 false true false false):=by
 refine returnsInHanded_of_change (C:=Try.checked) own started (by kernel_rfl) Try.func6
  (ChangeSpec.witness6 (enc:=enc) (C:=Try.checked) false ⟨#[], #[.slice none 0 0,.slice none 0 0,.slice none 0 0,.slice none 0 0],[]⟩ 8 (by kernel_rfl) (by kernel_rfl) (by kernel_rfl) (by kernel_rfl)) ?_
 intro W base args ds gs before hval hW _ _
 exact contract H enc W base args ds gs before hval hW
theorem said:Rows.BoxPlansSaid :=
 OpenClaim.holds_of_wide 6 Try.f6 rfl rfl rfl rfl rfl rfl rfl ⟨rfl,rfl,rfl,rfl,rfl⟩ rfl rfl rfl rfl rfl (by kernel_rfl) Try.func6 (by kernel_rfl)
  (of_decide_eq_true (by kernel_rfl)) (by unfold Func.isWrapper; first | (rw [if_pos (by decide +kernel)]; kernel_rfl) | (rw [if_neg (by decide +kernel)]; exact ⟨rfl,rfl⟩))
  (fun os started H enc _=>lifted os started H enc)
end Go.Proofs.Ytmddjopahcbefaa
