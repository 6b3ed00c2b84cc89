/- A part of the proof. -/
import Derived.Shelf.SlSortCmp.WholeK
import Derived.Test.YtbionhgjgcpogaaDoorProg
import Derived.Shelf.SlLaysF0
import Derived.Shelf.SlGeneric
import Derived.Test.YtbionhgjgcpogaaDoorXP3G10
namespace Go.Proofs.YtbionhgjgcpogaaDoor
open Go Go.Proofs.YtbionhgjgcpogaaDoor.Clean
set_option linter.unusedVariables false
set_option linter.unusedSimpArgs false
set_option maxRecDepth 10000
theorem hcT:cfT.ok Tryd.prog:=cfgM_ok
theorem hcU:cfU.ok Tryd.prog:=cfgM_ok
theorem hcV:cfV.ok Tryd.prog:=cfgM_ok
def qz (c:Cl):Cl:=(-c.2.1,c.1,c.2.2)
def qx (c:Cl):Cl:=(c.1, -c.2.2,c.2.1)
def itr (f:Cl→Cl):Nat→Cl→Cl
 | 0,c=>c
 | n+1,c=>itr f n (f c)
def tn (n:Nat) (c:Cl):Cl:=if n / 4<4 then itr qx (n / 4) (itr qz (n % 4) c) else itr qz (if n / 4=4 then 1 else 3) (qx (itr qz (n % 4) c))
theorem wn {t:Int} (h : -3000≤t) (h' : t≤3000):IntKind.i64.wrap (0 - t) = -t:=by rw [wr (by omega) (by omega)]; omega
theorem wn6 {t:Int} (h : -3000≤t) (h' : t≤3000):IntKind.i64.wrap (0 - t) = -t∧IntKind.i64.wrap (0 - -t) = - -t∧IntKind.i64.wrap (0 - - -t) = - - -t∧IntKind.i64.wrap (0 - - - -t) = - - - -t∧IntKind.i64.wrap (0 - - - - -t) = - - - - -t :=
 ⟨wn h h', wn (by omega) (by omega),wn (by omega) (by omega),wn (by omega) (by omega),wn (by omega) (by omega)⟩
theorem cell85_0 {c:Cl} {R:V→Prop} (hb:Bd 3000 c) (h:R (.agg (clr (tn 0 c)))):K0G Tryd.prog glX 41 [(chA 0),.agg (clr c)] R:=by
 refine K0_by hmX hcT 3000 Tryd.func41 (p:=R (V.agg [iv c.1,iv c.2.1,iv c.2.2])) (by kernel_rfl) ?_
 unfold Bd Nr at hb
 obtain ⟨x1,x2,x3,x4,x5⟩:=wn6 (t:=c.1) (by omega) (by omega)
 obtain ⟨y1,y2,y3,y4,y5⟩:=wn6 (t:=c.2.1) (by omega) (by omega)
 obtain ⟨z1,z2,z3,z4,z5⟩:=wn6 (t:=c.2.2) (by omega) (by omega)
 try simp only [x1,x2,x3,x4,x5,y1,y2,y3,y4,y5,z1,z2,z3,z4,z5]
 exact h
theorem chain82_0 {R:V→Prop} (h:R (chA 0)):K0G Tryd.prog glX 40 [iv 0] R:=K0_by hmX hcT 3000 Tryd.func40 (p:=R (chA 0)) (by kernel_rfl) h
theorem turned100_0 {c:Cl} {R:V→Prop} (hb:Bd 3000 c) (h:R (.agg (clr (tn 0 c)))):K0G Tryd.prog glX 28 [.agg (clr c),iv 0] R:=by
 refine K0_by hmX hcV 3000 Tryd.func28 (p:=R (V.agg [iv c.1,iv c.2.1,iv c.2.2])) (by kernel_rfl) ?_
 unfold Bd Nr at hb
 obtain ⟨x1,x2,x3,x4,x5⟩:=wn6 (t:=c.1) (by omega) (by omega)
 obtain ⟨y1,y2,y3,y4,y5⟩:=wn6 (t:=c.2.1) (by omega) (by omega)
 obtain ⟨z1,z2,z3,z4,z5⟩:=wn6 (t:=c.2.2) (by omega) (by omega)
 try simp only [x1,x2,x3,x4,x5,y1,y2,y3,y4,y5,z1,z2,z3,z4,z5]
 exact h
theorem cell85_1 {c:Cl} {R:V→Prop} (hb:Bd 3000 c) (h:R (.agg (clr (tn 1 c)))):K0G Tryd.prog glX 41 [(chA 1),.agg (clr c)] R:=by
 refine K0_by hmX hcT 3000 Tryd.func41 (p:=R (V.agg [iv (IntKind.i64.wrap (0 - c.2.1)),iv c.1,iv c.2.2])) (by kernel_rfl) ?_
 unfold Bd Nr at hb
 obtain ⟨x1,x2,x3,x4,x5⟩:=wn6 (t:=c.1) (by omega) (by omega)
 obtain ⟨y1,y2,y3,y4,y5⟩:=wn6 (t:=c.2.1) (by omega) (by omega)
 obtain ⟨z1,z2,z3,z4,z5⟩:=wn6 (t:=c.2.2) (by omega) (by omega)
 try simp only [x1,x2,x3,x4,x5,y1,y2,y3,y4,y5,z1,z2,z3,z4,z5]
 exact h
theorem chain82_1 {R:V→Prop} (h:R (chA 1)):K0G Tryd.prog glX 40 [iv 1] R:=K0_by hmX hcT 3000 Tryd.func40 (p:=R (chA 1)) (by kernel_rfl) h
theorem turned100_1 {c:Cl} {R:V→Prop} (hb:Bd 3000 c) (h:R (.agg (clr (tn 1 c)))):K0G Tryd.prog glX 28 [.agg (clr c),iv 1] R:=by
 refine K0_by hmX hcV 3000 Tryd.func28 (p:=R (V.agg [iv (IntKind.i64.wrap (0 - c.2.1)),iv c.1,iv c.2.2])) (by kernel_rfl) ?_
 unfold Bd Nr at hb
 obtain ⟨x1,x2,x3,x4,x5⟩:=wn6 (t:=c.1) (by omega) (by omega)
 obtain ⟨y1,y2,y3,y4,y5⟩:=wn6 (t:=c.2.1) (by omega) (by omega)
 obtain ⟨z1,z2,z3,z4,z5⟩:=wn6 (t:=c.2.2) (by omega) (by omega)
 try simp only [x1,x2,x3,x4,x5,y1,y2,y3,y4,y5,z1,z2,z3,z4,z5]
 exact h
theorem cell85_2 {c:Cl} {R:V→Prop} (hb:Bd 3000 c) (h:R (.agg (clr (tn 2 c)))):K0G Tryd.prog glX 41 [(chA 2),.agg (clr c)] R:=by
 refine K0_by hmX hcT 3000 Tryd.func41 (p:=R (V.agg [iv (IntKind.i64.wrap (0 - c.1)),iv (IntKind.i64.wrap (0 - c.2.1)),iv c.2.2])) (by kernel_rfl) ?_
 unfold Bd Nr at hb
 obtain ⟨x1,x2,x3,x4,x5⟩:=wn6 (t:=c.1) (by omega) (by omega)
 obtain ⟨y1,y2,y3,y4,y5⟩:=wn6 (t:=c.2.1) (by omega) (by omega)
 obtain ⟨z1,z2,z3,z4,z5⟩:=wn6 (t:=c.2.2) (by omega) (by omega)
 try simp only [x1,x2,x3,x4,x5,y1,y2,y3,y4,y5,z1,z2,z3,z4,z5]
 exact h
theorem chain82_2 {R:V→Prop} (h:R (chA 2)):K0G Tryd.prog glX 40 [iv 2] R:=K0_by hmX hcT 3000 Tryd.func40 (p:=R (chA 2)) (by kernel_rfl) h
theorem turned100_2 {c:Cl} {R:V→Prop} (hb:Bd 3000 c) (h:R (.agg (clr (tn 2 c)))):K0G Tryd.prog glX 28 [.agg (clr c),iv 2] R:=by
 refine K0_by hmX hcV 3000 Tryd.func28 (p:=R (V.agg [iv (IntKind.i64.wrap (0 - c.1)),iv (IntKind.i64.wrap (0 - c.2.1)),iv c.2.2])) (by kernel_rfl) ?_
 unfold Bd Nr at hb
 obtain ⟨x1,x2,x3,x4,x5⟩:=wn6 (t:=c.1) (by omega) (by omega)
 obtain ⟨y1,y2,y3,y4,y5⟩:=wn6 (t:=c.2.1) (by omega) (by omega)
 obtain ⟨z1,z2,z3,z4,z5⟩:=wn6 (t:=c.2.2) (by omega) (by omega)
 try simp only [x1,x2,x3,x4,x5,y1,y2,y3,y4,y5,z1,z2,z3,z4,z5]
 exact h
theorem cell85_3 {c:Cl} {R:V→Prop} (hb:Bd 3000 c) (h:R (.agg (clr (tn 3 c)))):K0G Tryd.prog glX 41 [(chA 3),.agg (clr c)] R:=by
 refine K0_by hmX hcT 3000 Tryd.func41 (p:=R (V.agg [iv (IntKind.i64.wrap (0 - (IntKind.i64.wrap (0 - c.2.1)))),iv (IntKind.i64.wrap (0 - c.1)),iv c.2.2])) (by kernel_rfl) ?_
 unfold Bd Nr at hb
 obtain ⟨x1,x2,x3,x4,x5⟩:=wn6 (t:=c.1) (by omega) (by omega)
 obtain ⟨y1,y2,y3,y4,y5⟩:=wn6 (t:=c.2.1) (by omega) (by omega)
 obtain ⟨z1,z2,z3,z4,z5⟩:=wn6 (t:=c.2.2) (by omega) (by omega)
 try simp only [x1,x2,x3,x4,x5,y1,y2,y3,y4,y5,z1,z2,z3,z4,z5]
 exact h
theorem chain82_3 {R:V→Prop} (h:R (chA 3)):K0G Tryd.prog glX 40 [iv 3] R:=K0_by hmX hcT 3000 Tryd.func40 (p:=R (chA 3)) (by kernel_rfl) h
theorem turned100_3 {c:Cl} {R:V→Prop} (hb:Bd 3000 c) (h:R (.agg (clr (tn 3 c)))):K0G Tryd.prog glX 28 [.agg (clr c),iv 3] R:=by
 refine K0_by hmX hcV 3000 Tryd.func28 (p:=R (V.agg [iv (IntKind.i64.wrap (0 - (IntKind.i64.wrap (0 - c.2.1)))),iv (IntKind.i64.wrap (0 - c.1)),iv c.2.2])) (by kernel_rfl) ?_
 unfold Bd Nr at hb
 obtain ⟨x1,x2,x3,x4,x5⟩:=wn6 (t:=c.1) (by omega) (by omega)
 obtain ⟨y1,y2,y3,y4,y5⟩:=wn6 (t:=c.2.1) (by omega) (by omega)
 obtain ⟨z1,z2,z3,z4,z5⟩:=wn6 (t:=c.2.2) (by omega) (by omega)
 try simp only [x1,x2,x3,x4,x5,y1,y2,y3,y4,y5,z1,z2,z3,z4,z5]
 exact h
theorem cell85_4 {c:Cl} {R:V→Prop} (hb:Bd 3000 c) (h:R (.agg (clr (tn 4 c)))):K0G Tryd.prog glX 41 [(chB 0 1),.agg (clr c)] R:=by
 refine K0_by hmX hcT 3000 Tryd.func41 (p:=R (V.agg [iv c.1,iv (IntKind.i64.wrap (0 - c.2.2)),iv c.2.1])) (by kernel_rfl) ?_
 unfold Bd Nr at hb
 obtain ⟨x1,x2,x3,x4,x5⟩:=wn6 (t:=c.1) (by omega) (by omega)
 obtain ⟨y1,y2,y3,y4,y5⟩:=wn6 (t:=c.2.1) (by omega) (by omega)
 obtain ⟨z1,z2,z3,z4,z5⟩:=wn6 (t:=c.2.2) (by omega) (by omega)
 try simp only [x1,x2,x3,x4,x5,y1,y2,y3,y4,y5,z1,z2,z3,z4,z5]
 exact h
theorem chain82_4 {R:V→Prop} (h:R (chB 0 1)):K0G Tryd.prog glX 40 [iv 4] R:=K0_by hmX hcT 3000 Tryd.func40 (p:=R (chB 0 1)) (by kernel_rfl) h
theorem turned100_4 {c:Cl} {R:V→Prop} (hb:Bd 3000 c) (h:R (.agg (clr (tn 4 c)))):K0G Tryd.prog glX 28 [.agg (clr c),iv 4] R:=by
 refine K0_by hmX hcV 3000 Tryd.func28 (p:=R (V.agg [iv c.1,iv (IntKind.i64.wrap (0 - c.2.2)),iv c.2.1])) (by kernel_rfl) ?_
 unfold Bd Nr at hb
 obtain ⟨x1,x2,x3,x4,x5⟩:=wn6 (t:=c.1) (by omega) (by omega)
 obtain ⟨y1,y2,y3,y4,y5⟩:=wn6 (t:=c.2.1) (by omega) (by omega)
 obtain ⟨z1,z2,z3,z4,z5⟩:=wn6 (t:=c.2.2) (by omega) (by omega)
 try simp only [x1,x2,x3,x4,x5,y1,y2,y3,y4,y5,z1,z2,z3,z4,z5]
 exact h
theorem cell85_5 {c:Cl} {R:V→Prop} (hb:Bd 3000 c) (h:R (.agg (clr (tn 5 c)))):K0G Tryd.prog glX 41 [(chB 1 1),.agg (clr c)] R:=by
 refine K0_by hmX hcT 3000 Tryd.func41 (p:=R (V.agg [iv (IntKind.i64.wrap (0 - c.2.1)),iv (IntKind.i64.wrap (0 - c.2.2)),iv c.1])) (by kernel_rfl) ?_
 unfold Bd Nr at hb
 obtain ⟨x1,x2,x3,x4,x5⟩:=wn6 (t:=c.1) (by omega) (by omega)
 obtain ⟨y1,y2,y3,y4,y5⟩:=wn6 (t:=c.2.1) (by omega) (by omega)
 obtain ⟨z1,z2,z3,z4,z5⟩:=wn6 (t:=c.2.2) (by omega) (by omega)
 try simp only [x1,x2,x3,x4,x5,y1,y2,y3,y4,y5,z1,z2,z3,z4,z5]
 exact h
theorem chain82_5 {R:V→Prop} (h:R (chB 1 1)):K0G Tryd.prog glX 40 [iv 5] R:=K0_by hmX hcT 3000 Tryd.func40 (p:=R (chB 1 1)) (by kernel_rfl) h
theorem turned100_5 {c:Cl} {R:V→Prop} (hb:Bd 3000 c) (h:R (.agg (clr (tn 5 c)))):K0G Tryd.prog glX 28 [.agg (clr c),iv 5] R:=by
 refine K0_by hmX hcV 3000 Tryd.func28 (p:=R (V.agg [iv (IntKind.i64.wrap (0 - c.2.1)),iv (IntKind.i64.wrap (0 - c.2.2)),iv c.1])) (by kernel_rfl) ?_
 unfold Bd Nr at hb
 obtain ⟨x1,x2,x3,x4,x5⟩:=wn6 (t:=c.1) (by omega) (by omega)
 obtain ⟨y1,y2,y3,y4,y5⟩:=wn6 (t:=c.2.1) (by omega) (by omega)
 obtain ⟨z1,z2,z3,z4,z5⟩:=wn6 (t:=c.2.2) (by omega) (by omega)
 try simp only [x1,x2,x3,x4,x5,y1,y2,y3,y4,y5,z1,z2,z3,z4,z5]
 exact h
theorem cell85_6 {c:Cl} {R:V→Prop} (hb:Bd 3000 c) (h:R (.agg (clr (tn 6 c)))):K0G Tryd.prog glX 41 [(chB 2 1),.agg (clr c)] R:=by
 refine K0_by hmX hcT 3000 Tryd.func41 (p:=R (V.agg [iv (IntKind.i64.wrap (0 - c.1)),iv (IntKind.i64.wrap (0 - c.2.2)),iv (IntKind.i64.wrap (0 - c.2.1))])) (by kernel_rfl) ?_
 unfold Bd Nr at hb
 obtain ⟨x1,x2,x3,x4,x5⟩:=wn6 (t:=c.1) (by omega) (by omega)
 obtain ⟨y1,y2,y3,y4,y5⟩:=wn6 (t:=c.2.1) (by omega) (by omega)
 obtain ⟨z1,z2,z3,z4,z5⟩:=wn6 (t:=c.2.2) (by omega) (by omega)
 try simp only [x1,x2,x3,x4,x5,y1,y2,y3,y4,y5,z1,z2,z3,z4,z5]
 exact h
theorem chain82_6 {R:V→Prop} (h:R (chB 2 1)):K0G Tryd.prog glX 40 [iv 6] R:=K0_by hmX hcT 3000 Tryd.func40 (p:=R (chB 2 1)) (by kernel_rfl) h
theorem turned100_6 {c:Cl} {R:V→Prop} (hb:Bd 3000 c) (h:R (.agg (clr (tn 6 c)))):K0G Tryd.prog glX 28 [.agg (clr c),iv 6] R:=by
 refine K0_by hmX hcV 3000 Tryd.func28 (p:=R (V.agg [iv (IntKind.i64.wrap (0 - c.1)),iv (IntKind.i64.wrap (0 - c.2.2)),iv (IntKind.i64.wrap (0 - c.2.1))])) (by kernel_rfl) ?_
 unfold Bd Nr at hb
 obtain ⟨x1,x2,x3,x4,x5⟩:=wn6 (t:=c.1) (by omega) (by omega)
 obtain ⟨y1,y2,y3,y4,y5⟩:=wn6 (t:=c.2.1) (by omega) (by omega)
 obtain ⟨z1,z2,z3,z4,z5⟩:=wn6 (t:=c.2.2) (by omega) (by omega)
 try simp only [x1,x2,x3,x4,x5,y1,y2,y3,y4,y5,z1,z2,z3,z4,z5]
 exact h
theorem cell85_7 {c:Cl} {R:V→Prop} (hb:Bd 3000 c) (h:R (.agg (clr (tn 7 c)))):K0G Tryd.prog glX 41 [(chB 3 1),.agg (clr c)] R:=by
 refine K0_by hmX hcT 3000 Tryd.func41 (p:=R (V.agg [iv (IntKind.i64.wrap (0 - (IntKind.i64.wrap (0 - c.2.1)))),iv (IntKind.i64.wrap (0 - c.2.2)),iv (IntKind.i64.wrap (0 - c.1))])) (by kernel_rfl) ?_
 unfold Bd Nr at hb
 obtain ⟨x1,x2,x3,x4,x5⟩:=wn6 (t:=c.1) (by omega) (by omega)
 obtain ⟨y1,y2,y3,y4,y5⟩:=wn6 (t:=c.2.1) (by omega) (by omega)
 obtain ⟨z1,z2,z3,z4,z5⟩:=wn6 (t:=c.2.2) (by omega) (by omega)
 try simp only [x1,x2,x3,x4,x5,y1,y2,y3,y4,y5,z1,z2,z3,z4,z5]
 exact h
theorem chain82_7 {R:V→Prop} (h:R (chB 3 1)):K0G Tryd.prog glX 40 [iv 7] R:=K0_by hmX hcT 3000 Tryd.func40 (p:=R (chB 3 1)) (by kernel_rfl) h
theorem turned100_7 {c:Cl} {R:V→Prop} (hb:Bd 3000 c) (h:R (.agg (clr (tn 7 c)))):K0G Tryd.prog glX 28 [.agg (clr c),iv 7] R:=by
 refine K0_by hmX hcV 3000 Tryd.func28 (p:=R (V.agg [iv (IntKind.i64.wrap (0 - (IntKind.i64.wrap (0 - c.2.1)))),iv (IntKind.i64.wrap (0 - c.2.2)),iv (IntKind.i64.wrap (0 - c.1))])) (by kernel_rfl) ?_
 unfold Bd Nr at hb
 obtain ⟨x1,x2,x3,x4,x5⟩:=wn6 (t:=c.1) (by omega) (by omega)
 obtain ⟨y1,y2,y3,y4,y5⟩:=wn6 (t:=c.2.1) (by omega) (by omega)
 obtain ⟨z1,z2,z3,z4,z5⟩:=wn6 (t:=c.2.2) (by omega) (by omega)
 try simp only [x1,x2,x3,x4,x5,y1,y2,y3,y4,y5,z1,z2,z3,z4,z5]
 exact h
theorem cell85_8 {c:Cl} {R:V→Prop} (hb:Bd 3000 c) (h:R (.agg (clr (tn 8 c)))):K0G Tryd.prog glX 41 [(chB 0 2),.agg (clr c)] R:=by
 refine K0_by hmX hcT 3000 Tryd.func41 (p:=R (V.agg [iv c.1,iv (IntKind.i64.wrap (0 - c.2.1)),iv (IntKind.i64.wrap (0 - c.2.2))])) (by kernel_rfl) ?_
 unfold Bd Nr at hb
 obtain ⟨x1,x2,x3,x4,x5⟩:=wn6 (t:=c.1) (by omega) (by omega)
 obtain ⟨y1,y2,y3,y4,y5⟩:=wn6 (t:=c.2.1) (by omega) (by omega)
 obtain ⟨z1,z2,z3,z4,z5⟩:=wn6 (t:=c.2.2) (by omega) (by omega)
 try simp only [x1,x2,x3,x4,x5,y1,y2,y3,y4,y5,z1,z2,z3,z4,z5]
 exact h
theorem chain82_8 {R:V→Prop} (h:R (chB 0 2)):K0G Tryd.prog glX 40 [iv 8] R:=K0_by hmX hcT 3000 Tryd.func40 (p:=R (chB 0 2)) (by kernel_rfl) h
theorem turned100_8 {c:Cl} {R:V→Prop} (hb:Bd 3000 c) (h:R (.agg (clr (tn 8 c)))):K0G Tryd.prog glX 28 [.agg (clr c),iv 8] R:=by
 refine K0_by hmX hcV 3000 Tryd.func28 (p:=R (V.agg [iv c.1,iv (IntKind.i64.wrap (0 - c.2.1)),iv (IntKind.i64.wrap (0 - c.2.2))])) (by kernel_rfl) ?_
 unfold Bd Nr at hb
 obtain ⟨x1,x2,x3,x4,x5⟩:=wn6 (t:=c.1) (by omega) (by omega)
 obtain ⟨y1,y2,y3,y4,y5⟩:=wn6 (t:=c.2.1) (by omega) (by omega)
 obtain ⟨z1,z2,z3,z4,z5⟩:=wn6 (t:=c.2.2) (by omega) (by omega)
 try simp only [x1,x2,x3,x4,x5,y1,y2,y3,y4,y5,z1,z2,z3,z4,z5]
 exact h
theorem cell85_9 {c:Cl} {R:V→Prop} (hb:Bd 3000 c) (h:R (.agg (clr (tn 9 c)))):K0G Tryd.prog glX 41 [(chB 1 2),.agg (clr c)] R:=by
 refine K0_by hmX hcT 3000 Tryd.func41 (p:=R (V.agg [iv (IntKind.i64.wrap (0 - c.2.1)),iv (IntKind.i64.wrap (0 - c.1)),iv (IntKind.i64.wrap (0 - c.2.2))])) (by kernel_rfl) ?_
 unfold Bd Nr at hb
 obtain ⟨x1,x2,x3,x4,x5⟩:=wn6 (t:=c.1) (by omega) (by omega)
 obtain ⟨y1,y2,y3,y4,y5⟩:=wn6 (t:=c.2.1) (by omega) (by omega)
 obtain ⟨z1,z2,z3,z4,z5⟩:=wn6 (t:=c.2.2) (by omega) (by omega)
 try simp only [x1,x2,x3,x4,x5,y1,y2,y3,y4,y5,z1,z2,z3,z4,z5]
 exact h
theorem chain82_9 {R:V→Prop} (h:R (chB 1 2)):K0G Tryd.prog glX 40 [iv 9] R:=K0_by hmX hcT 3000 Tryd.func40 (p:=R (chB 1 2)) (by kernel_rfl) h
theorem turned100_9 {c:Cl} {R:V→Prop} (hb:Bd 3000 c) (h:R (.agg (clr (tn 9 c)))):K0G Tryd.prog glX 28 [.agg (clr c),iv 9] R:=by
 refine K0_by hmX hcV 3000 Tryd.func28 (p:=R (V.agg [iv (IntKind.i64.wrap (0 - c.2.1)),iv (IntKind.i64.wrap (0 - c.1)),iv (IntKind.i64.wrap (0 - c.2.2))])) (by kernel_rfl) ?_
 unfold Bd Nr at hb
 obtain ⟨x1,x2,x3,x4,x5⟩:=wn6 (t:=c.1) (by omega) (by omega)
 obtain ⟨y1,y2,y3,y4,y5⟩:=wn6 (t:=c.2.1) (by omega) (by omega)
 obtain ⟨z1,z2,z3,z4,z5⟩:=wn6 (t:=c.2.2) (by omega) (by omega)
 try simp only [x1,x2,x3,x4,x5,y1,y2,y3,y4,y5,z1,z2,z3,z4,z5]
 exact h
theorem cell85_10 {c:Cl} {R:V→Prop} (hb:Bd 3000 c) (h:R (.agg (clr (tn 10 c)))):K0G Tryd.prog glX 41 [(chB 2 2),.agg (clr c)] R:=by
 refine K0_by hmX hcT 3000 Tryd.func41 (p:=R (V.agg [iv (IntKind.i64.wrap (0 - c.1)),iv (IntKind.i64.wrap (0 - (IntKind.i64.wrap (0 - c.2.1)))),iv (IntKind.i64.wrap (0 - c.2.2))])) (by kernel_rfl) ?_
 unfold Bd Nr at hb
 obtain ⟨x1,x2,x3,x4,x5⟩:=wn6 (t:=c.1) (by omega) (by omega)
 obtain ⟨y1,y2,y3,y4,y5⟩:=wn6 (t:=c.2.1) (by omega) (by omega)
 obtain ⟨z1,z2,z3,z4,z5⟩:=wn6 (t:=c.2.2) (by omega) (by omega)
 try simp only [x1,x2,x3,x4,x5,y1,y2,y3,y4,y5,z1,z2,z3,z4,z5]
 exact h
theorem chain82_10 {R:V→Prop} (h:R (chB 2 2)):K0G Tryd.prog glX 40 [iv 10] R:=K0_by hmX hcT 3000 Tryd.func40 (p:=R (chB 2 2)) (by kernel_rfl) h
theorem turned100_10 {c:Cl} {R:V→Prop} (hb:Bd 3000 c) (h:R (.agg (clr (tn 10 c)))):K0G Tryd.prog glX 28 [.agg (clr c),iv 10] R:=by
 refine K0_by hmX hcV 3000 Tryd.func28 (p:=R (V.agg [iv (IntKind.i64.wrap (0 - c.1)),iv (IntKind.i64.wrap (0 - (IntKind.i64.wrap (0 - c.2.1)))),iv (IntKind.i64.wrap (0 - c.2.2))])) (by kernel_rfl) ?_
 unfold Bd Nr at hb
 obtain ⟨x1,x2,x3,x4,x5⟩:=wn6 (t:=c.1) (by omega) (by omega)
 obtain ⟨y1,y2,y3,y4,y5⟩:=wn6 (t:=c.2.1) (by omega) (by omega)
 obtain ⟨z1,z2,z3,z4,z5⟩:=wn6 (t:=c.2.2) (by omega) (by omega)
 try simp only [x1,x2,x3,x4,x5,y1,y2,y3,y4,y5,z1,z2,z3,z4,z5]
 exact h
theorem cell85_11 {c:Cl} {R:V→Prop} (hb:Bd 3000 c) (h:R (.agg (clr (tn 11 c)))):K0G Tryd.prog glX 41 [(chB 3 2),.agg (clr c)] R:=by
 refine K0_by hmX hcT 3000 Tryd.func41 (p:=R (V.agg [iv (IntKind.i64.wrap (0 - (IntKind.i64.wrap (0 - c.2.1)))),iv (IntKind.i64.wrap (0 - (IntKind.i64.wrap (0 - c.1)))),iv (IntKind.i64.wrap (0 - c.2.2))])) (by kernel_rfl) ?_
 unfold Bd Nr at hb
 obtain ⟨x1,x2,x3,x4,x5⟩:=wn6 (t:=c.1) (by omega) (by omega)
 obtain ⟨y1,y2,y3,y4,y5⟩:=wn6 (t:=c.2.1) (by omega) (by omega)
 obtain ⟨z1,z2,z3,z4,z5⟩:=wn6 (t:=c.2.2) (by omega) (by omega)
 try simp only [x1,x2,x3,x4,x5,y1,y2,y3,y4,y5,z1,z2,z3,z4,z5]
 exact h
theorem chain82_11 {R:V→Prop} (h:R (chB 3 2)):K0G Tryd.prog glX 40 [iv 11] R:=K0_by hmX hcT 3000 Tryd.func40 (p:=R (chB 3 2)) (by kernel_rfl) h
theorem turned100_11 {c:Cl} {R:V→Prop} (hb:Bd 3000 c) (h:R (.agg (clr (tn 11 c)))):K0G Tryd.prog glX 28 [.agg (clr c),iv 11] R:=by
 refine K0_by hmX hcV 3000 Tryd.func28 (p:=R (V.agg [iv (IntKind.i64.wrap (0 - (IntKind.i64.wrap (0 - c.2.1)))),iv (IntKind.i64.wrap (0 - (IntKind.i64.wrap (0 - c.1)))),iv (IntKind.i64.wrap (0 - c.2.2))])) (by kernel_rfl) ?_
 unfold Bd Nr at hb
 obtain ⟨x1,x2,x3,x4,x5⟩:=wn6 (t:=c.1) (by omega) (by omega)
 obtain ⟨y1,y2,y3,y4,y5⟩:=wn6 (t:=c.2.1) (by omega) (by omega)
 obtain ⟨z1,z2,z3,z4,z5⟩:=wn6 (t:=c.2.2) (by omega) (by omega)
 try simp only [x1,x2,x3,x4,x5,y1,y2,y3,y4,y5,z1,z2,z3,z4,z5]
 exact h
theorem cell85_12 {c:Cl} {R:V→Prop} (hb:Bd 3000 c) (h:R (.agg (clr (tn 12 c)))):K0G Tryd.prog glX 41 [(chB 0 3),.agg (clr c)] R:=by
 refine K0_by hmX hcT 3000 Tryd.func41 (p:=R (V.agg [iv c.1,iv (IntKind.i64.wrap (0 - (IntKind.i64.wrap (0 - c.2.2)))),iv (IntKind.i64.wrap (0 - c.2.1))])) (by kernel_rfl) ?_
 unfold Bd Nr at hb
 obtain ⟨x1,x2,x3,x4,x5⟩:=wn6 (t:=c.1) (by omega) (by omega)
 obtain ⟨y1,y2,y3,y4,y5⟩:=wn6 (t:=c.2.1) (by omega) (by omega)
 obtain ⟨z1,z2,z3,z4,z5⟩:=wn6 (t:=c.2.2) (by omega) (by omega)
 try simp only [x1,x2,x3,x4,x5,y1,y2,y3,y4,y5,z1,z2,z3,z4,z5]
 exact h
theorem chain82_12 {R:V→Prop} (h:R (chB 0 3)):K0G Tryd.prog glX 40 [iv 12] R:=K0_by hmX hcT 3000 Tryd.func40 (p:=R (chB 0 3)) (by kernel_rfl) h
theorem turned100_12 {c:Cl} {R:V→Prop} (hb:Bd 3000 c) (h:R (.agg (clr (tn 12 c)))):K0G Tryd.prog glX 28 [.agg (clr c),iv 12] R:=by
 refine K0_by hmX hcV 3000 Tryd.func28 (p:=R (V.agg [iv c.1,iv (IntKind.i64.wrap (0 - (IntKind.i64.wrap (0 - c.2.2)))),iv (IntKind.i64.wrap (0 - c.2.1))])) (by kernel_rfl) ?_
 unfold Bd Nr at hb
 obtain ⟨x1,x2,x3,x4,x5⟩:=wn6 (t:=c.1) (by omega) (by omega)
 obtain ⟨y1,y2,y3,y4,y5⟩:=wn6 (t:=c.2.1) (by omega) (by omega)
 obtain ⟨z1,z2,z3,z4,z5⟩:=wn6 (t:=c.2.2) (by omega) (by omega)
 try simp only [x1,x2,x3,x4,x5,y1,y2,y3,y4,y5,z1,z2,z3,z4,z5]
 exact h
theorem cell85_13 {c:Cl} {R:V→Prop} (hb:Bd 3000 c) (h:R (.agg (clr (tn 13 c)))):K0G Tryd.prog glX 41 [(chB 1 3),.agg (clr c)] R:=by
 refine K0_by hmX hcT 3000 Tryd.func41 (p:=R (V.agg [iv (IntKind.i64.wrap (0 - c.2.1)),iv (IntKind.i64.wrap (0 - (IntKind.i64.wrap (0 - c.2.2)))),iv (IntKind.i64.wrap (0 - c.1))])) (by kernel_rfl) ?_
 unfold Bd Nr at hb
 obtain ⟨x1,x2,x3,x4,x5⟩:=wn6 (t:=c.1) (by omega) (by omega)
 obtain ⟨y1,y2,y3,y4,y5⟩:=wn6 (t:=c.2.1) (by omega) (by omega)
 obtain ⟨z1,z2,z3,z4,z5⟩:=wn6 (t:=c.2.2) (by omega) (by omega)
 try simp only [x1,x2,x3,x4,x5,y1,y2,y3,y4,y5,z1,z2,z3,z4,z5]
 exact h
theorem chain82_13 {R:V→Prop} (h:R (chB 1 3)):K0G Tryd.prog glX 40 [iv 13] R:=K0_by hmX hcT 3000 Tryd.func40 (p:=R (chB 1 3)) (by kernel_rfl) h
theorem turned100_13 {c:Cl} {R:V→Prop} (hb:Bd 3000 c) (h:R (.agg (clr (tn 13 c)))):K0G Tryd.prog glX 28 [.agg (clr c),iv 13] R:=by
 refine K0_by hmX hcV 3000 Tryd.func28 (p:=R (V.agg [iv (IntKind.i64.wrap (0 - c.2.1)),iv (IntKind.i64.wrap (0 - (IntKind.i64.wrap (0 - c.2.2)))),iv (IntKind.i64.wrap (0 - c.1))])) (by kernel_rfl) ?_
 unfold Bd Nr at hb
 obtain ⟨x1,x2,x3,x4,x5⟩:=wn6 (t:=c.1) (by omega) (by omega)
 obtain ⟨y1,y2,y3,y4,y5⟩:=wn6 (t:=c.2.1) (by omega) (by omega)
 obtain ⟨z1,z2,z3,z4,z5⟩:=wn6 (t:=c.2.2) (by omega) (by omega)
 try simp only [x1,x2,x3,x4,x5,y1,y2,y3,y4,y5,z1,z2,z3,z4,z5]
 exact h
theorem cell85_14 {c:Cl} {R:V→Prop} (hb:Bd 3000 c) (h:R (.agg (clr (tn 14 c)))):K0G Tryd.prog glX 41 [(chB 2 3),.agg (clr c)] R:=by
 refine K0_by hmX hcT 3000 Tryd.func41 (p:=R (V.agg [iv (IntKind.i64.wrap (0 - c.1)),iv (IntKind.i64.wrap (0 - (IntKind.i64.wrap (0 - c.2.2)))),iv (IntKind.i64.wrap (0 - (IntKind.i64.wrap (0 - c.2.1))))])) (by kernel_rfl) ?_
 unfold Bd Nr at hb
 obtain ⟨x1,x2,x3,x4,x5⟩:=wn6 (t:=c.1) (by omega) (by omega)
 obtain ⟨y1,y2,y3,y4,y5⟩:=wn6 (t:=c.2.1) (by omega) (by omega)
 obtain ⟨z1,z2,z3,z4,z5⟩:=wn6 (t:=c.2.2) (by omega) (by omega)
 try simp only [x1,x2,x3,x4,x5,y1,y2,y3,y4,y5,z1,z2,z3,z4,z5]
 exact h
theorem chain82_14 {R:V→Prop} (h:R (chB 2 3)):K0G Tryd.prog glX 40 [iv 14] R:=K0_by hmX hcT 3000 Tryd.func40 (p:=R (chB 2 3)) (by kernel_rfl) h
theorem turned100_14 {c:Cl} {R:V→Prop} (hb:Bd 3000 c) (h:R (.agg (clr (tn 14 c)))):K0G Tryd.prog glX 28 [.agg (clr c),iv 14] R:=by
 refine K0_by hmX hcV 3000 Tryd.func28 (p:=R (V.agg [iv (IntKind.i64.wrap (0 - c.1)),iv (IntKind.i64.wrap (0 - (IntKind.i64.wrap (0 - c.2.2)))),iv (IntKind.i64.wrap (0 - (IntKind.i64.wrap (0 - c.2.1))))])) (by kernel_rfl) ?_
 unfold Bd Nr at hb
 obtain ⟨x1,x2,x3,x4,x5⟩:=wn6 (t:=c.1) (by omega) (by omega)
 obtain ⟨y1,y2,y3,y4,y5⟩:=wn6 (t:=c.2.1) (by omega) (by omega)
 obtain ⟨z1,z2,z3,z4,z5⟩:=wn6 (t:=c.2.2) (by omega) (by omega)
 try simp only [x1,x2,x3,x4,x5,y1,y2,y3,y4,y5,z1,z2,z3,z4,z5]
 exact h
theorem cell85_15 {c:Cl} {R:V→Prop} (hb:Bd 3000 c) (h:R (.agg (clr (tn 15 c)))):K0G Tryd.prog glX 41 [(chB 3 3),.agg (clr c)] R:=by
 refine K0_by hmX hcT 3000 Tryd.func41 (p:=R (V.agg [iv (IntKind.i64.wrap (0 - (IntKind.i64.wrap (0 - c.2.1)))),iv (IntKind.i64.wrap (0 - (IntKind.i64.wrap (0 - c.2.2)))),iv (IntKind.i64.wrap (0 - (IntKind.i64.wrap (0 - c.1))))])) (by kernel_rfl) ?_
 unfold Bd Nr at hb
 obtain ⟨x1,x2,x3,x4,x5⟩:=wn6 (t:=c.1) (by omega) (by omega)
 obtain ⟨y1,y2,y3,y4,y5⟩:=wn6 (t:=c.2.1) (by omega) (by omega)
 obtain ⟨z1,z2,z3,z4,z5⟩:=wn6 (t:=c.2.2) (by omega) (by omega)
 try simp only [x1,x2,x3,x4,x5,y1,y2,y3,y4,y5,z1,z2,z3,z4,z5]
 exact h
theorem chain82_15 {R:V→Prop} (h:R (chB 3 3)):K0G Tryd.prog glX 40 [iv 15] R:=K0_by hmX hcT 3000 Tryd.func40 (p:=R (chB 3 3)) (by kernel_rfl) h
theorem turned100_15 {c:Cl} {R:V→Prop} (hb:Bd 3000 c) (h:R (.agg (clr (tn 15 c)))):K0G Tryd.prog glX 28 [.agg (clr c),iv 15] R:=by
 refine K0_by hmX hcV 3000 Tryd.func28 (p:=R (V.agg [iv (IntKind.i64.wrap (0 - (IntKind.i64.wrap (0 - c.2.1)))),iv (IntKind.i64.wrap (0 - (IntKind.i64.wrap (0 - c.2.2)))),iv (IntKind.i64.wrap (0 - (IntKind.i64.wrap (0 - c.1))))])) (by kernel_rfl) ?_
 unfold Bd Nr at hb
 obtain ⟨x1,x2,x3,x4,x5⟩:=wn6 (t:=c.1) (by omega) (by omega)
 obtain ⟨y1,y2,y3,y4,y5⟩:=wn6 (t:=c.2.1) (by omega) (by omega)
 obtain ⟨z1,z2,z3,z4,z5⟩:=wn6 (t:=c.2.2) (by omega) (by omega)
 try simp only [x1,x2,x3,x4,x5,y1,y2,y3,y4,y5,z1,z2,z3,z4,z5]
 exact h
theorem cell85_16 {c:Cl} {R:V→Prop} (hb:Bd 3000 c) (h:R (.agg (clr (tn 16 c)))):K0G Tryd.prog glX 41 [(chC 0 1),.agg (clr c)] R:=by
 refine K0_by hmX hcT 3000 Tryd.func41 (p:=R (V.agg [iv (IntKind.i64.wrap (0 - (IntKind.i64.wrap (0 - c.2.2)))),iv c.1,iv c.2.1])) (by kernel_rfl) ?_
 unfold Bd Nr at hb
 obtain ⟨x1,x2,x3,x4,x5⟩:=wn6 (t:=c.1) (by omega) (by omega)
 obtain ⟨y1,y2,y3,y4,y5⟩:=wn6 (t:=c.2.1) (by omega) (by omega)
 obtain ⟨z1,z2,z3,z4,z5⟩:=wn6 (t:=c.2.2) (by omega) (by omega)
 try simp only [x1,x2,x3,x4,x5,y1,y2,y3,y4,y5,z1,z2,z3,z4,z5]
 exact h
theorem chain82_16 {R:V→Prop} (h:R (chC 0 1)):K0G Tryd.prog glX 40 [iv 16] R:=K0_by hmX hcT 3000 Tryd.func40 (p:=R (chC 0 1)) (by kernel_rfl) h
theorem turned100_16 {c:Cl} {R:V→Prop} (hb:Bd 3000 c) (h:R (.agg (clr (tn 16 c)))):K0G Tryd.prog glX 28 [.agg (clr c),iv 16] R:=by
 refine K0_by hmX hcV 3000 Tryd.func28 (p:=R (V.agg [iv (IntKind.i64.wrap (0 - (IntKind.i64.wrap (0 - c.2.2)))),iv c.1,iv c.2.1])) (by kernel_rfl) ?_
 unfold Bd Nr at hb
 obtain ⟨x1,x2,x3,x4,x5⟩:=wn6 (t:=c.1) (by omega) (by omega)
 obtain ⟨y1,y2,y3,y4,y5⟩:=wn6 (t:=c.2.1) (by omega) (by omega)
 obtain ⟨z1,z2,z3,z4,z5⟩:=wn6 (t:=c.2.2) (by omega) (by omega)
 try simp only [x1,x2,x3,x4,x5,y1,y2,y3,y4,y5,z1,z2,z3,z4,z5]
 exact h
theorem cell85_17 {c:Cl} {R:V→Prop} (hb:Bd 3000 c) (h:R (.agg (clr (tn 17 c)))):K0G Tryd.prog glX 41 [(chC 1 1),.agg (clr c)] R:=by
 refine K0_by hmX hcT 3000 Tryd.func41 (p:=R (V.agg [iv (IntKind.i64.wrap (0 - (IntKind.i64.wrap (0 - c.2.2)))),iv (IntKind.i64.wrap (0 - c.2.1)),iv c.1])) (by kernel_rfl) ?_
 unfold Bd Nr at hb
 obtain ⟨x1,x2,x3,x4,x5⟩:=wn6 (t:=c.1) (by omega) (by omega)
 obtain ⟨y1,y2,y3,y4,y5⟩:=wn6 (t:=c.2.1) (by omega) (by omega)
 obtain ⟨z1,z2,z3,z4,z5⟩:=wn6 (t:=c.2.2) (by omega) (by omega)
 try simp only [x1,x2,x3,x4,x5,y1,y2,y3,y4,y5,z1,z2,z3,z4,z5]
 exact h
theorem chain82_17 {R:V→Prop} (h:R (chC 1 1)):K0G Tryd.prog glX 40 [iv 17] R:=K0_by hmX hcT 3000 Tryd.func40 (p:=R (chC 1 1)) (by kernel_rfl) h
theorem turned100_17 {c:Cl} {R:V→Prop} (hb:Bd 3000 c) (h:R (.agg (clr (tn 17 c)))):K0G Tryd.prog glX 28 [.agg (clr c),iv 17] R:=by
 refine K0_by hmX hcV 3000 Tryd.func28 (p:=R (V.agg [iv (IntKind.i64.wrap (0 - (IntKind.i64.wrap (0 - c.2.2)))),iv (IntKind.i64.wrap (0 - c.2.1)),iv c.1])) (by kernel_rfl) ?_
 unfold Bd Nr at hb
 obtain ⟨x1,x2,x3,x4,x5⟩:=wn6 (t:=c.1) (by omega) (by omega)
 obtain ⟨y1,y2,y3,y4,y5⟩:=wn6 (t:=c.2.1) (by omega) (by omega)
 obtain ⟨z1,z2,z3,z4,z5⟩:=wn6 (t:=c.2.2) (by omega) (by omega)
 try simp only [x1,x2,x3,x4,x5,y1,y2,y3,y4,y5,z1,z2,z3,z4,z5]
 exact h
theorem cell85_18 {c:Cl} {R:V→Prop} (hb:Bd 3000 c) (h:R (.agg (clr (tn 18 c)))):K0G Tryd.prog glX 41 [(chC 2 1),.agg (clr c)] R:=by
 refine K0_by hmX hcT 3000 Tryd.func41 (p:=R (V.agg [iv (IntKind.i64.wrap (0 - (IntKind.i64.wrap (0 - c.2.2)))),iv (IntKind.i64.wrap (0 - c.1)),iv (IntKind.i64.wrap (0 - c.2.1))])) (by kernel_rfl) ?_
 unfold Bd Nr at hb
 obtain ⟨x1,x2,x3,x4,x5⟩:=wn6 (t:=c.1) (by omega) (by omega)
 obtain ⟨y1,y2,y3,y4,y5⟩:=wn6 (t:=c.2.1) (by omega) (by omega)
 obtain ⟨z1,z2,z3,z4,z5⟩:=wn6 (t:=c.2.2) (by omega) (by omega)
 try simp only [x1,x2,x3,x4,x5,y1,y2,y3,y4,y5,z1,z2,z3,z4,z5]
 exact h
theorem chain82_18 {R:V→Prop} (h:R (chC 2 1)):K0G Tryd.prog glX 40 [iv 18] R:=K0_by hmX hcT 3000 Tryd.func40 (p:=R (chC 2 1)) (by kernel_rfl) h
theorem turned100_18 {c:Cl} {R:V→Prop} (hb:Bd 3000 c) (h:R (.agg (clr (tn 18 c)))):K0G Tryd.prog glX 28 [.agg (clr c),iv 18] R:=by
 refine K0_by hmX hcV 3000 Tryd.func28 (p:=R (V.agg [iv (IntKind.i64.wrap (0 - (IntKind.i64.wrap (0 - c.2.2)))),iv (IntKind.i64.wrap (0 - c.1)),iv (IntKind.i64.wrap (0 - c.2.1))])) (by kernel_rfl) ?_
 unfold Bd Nr at hb
 obtain ⟨x1,x2,x3,x4,x5⟩:=wn6 (t:=c.1) (by omega) (by omega)
 obtain ⟨y1,y2,y3,y4,y5⟩:=wn6 (t:=c.2.1) (by omega) (by omega)
 obtain ⟨z1,z2,z3,z4,z5⟩:=wn6 (t:=c.2.2) (by omega) (by omega)
 try simp only [x1,x2,x3,x4,x5,y1,y2,y3,y4,y5,z1,z2,z3,z4,z5]
 exact h
theorem cell85_19 {c:Cl} {R:V→Prop} (hb:Bd 3000 c) (h:R (.agg (clr (tn 19 c)))):K0G Tryd.prog glX 41 [(chC 3 1),.agg (clr c)] R:=by
 refine K0_by hmX hcT 3000 Tryd.func41 (p:=R (V.agg [iv (IntKind.i64.wrap (0 - (IntKind.i64.wrap (0 - c.2.2)))),iv (IntKind.i64.wrap (0 - (IntKind.i64.wrap (0 - c.2.1)))),iv (IntKind.i64.wrap (0 - c.1))])) (by kernel_rfl) ?_
 unfold Bd Nr at hb
 obtain ⟨x1,x2,x3,x4,x5⟩:=wn6 (t:=c.1) (by omega) (by omega)
 obtain ⟨y1,y2,y3,y4,y5⟩:=wn6 (t:=c.2.1) (by omega) (by omega)
 obtain ⟨z1,z2,z3,z4,z5⟩:=wn6 (t:=c.2.2) (by omega) (by omega)
 try simp only [x1,x2,x3,x4,x5,y1,y2,y3,y4,y5,z1,z2,z3,z4,z5]
 exact h
theorem chain82_19 {R:V→Prop} (h:R (chC 3 1)):K0G Tryd.prog glX 40 [iv 19] R:=K0_by hmX hcT 3000 Tryd.func40 (p:=R (chC 3 1)) (by kernel_rfl) h
theorem turned100_19 {c:Cl} {R:V→Prop} (hb:Bd 3000 c) (h:R (.agg (clr (tn 19 c)))):K0G Tryd.prog glX 28 [.agg (clr c),iv 19] R:=by
 refine K0_by hmX hcV 3000 Tryd.func28 (p:=R (V.agg [iv (IntKind.i64.wrap (0 - (IntKind.i64.wrap (0 - c.2.2)))),iv (IntKind.i64.wrap (0 - (IntKind.i64.wrap (0 - c.2.1)))),iv (IntKind.i64.wrap (0 - c.1))])) (by kernel_rfl) ?_
 unfold Bd Nr at hb
 obtain ⟨x1,x2,x3,x4,x5⟩:=wn6 (t:=c.1) (by omega) (by omega)
 obtain ⟨y1,y2,y3,y4,y5⟩:=wn6 (t:=c.2.1) (by omega) (by omega)
 obtain ⟨z1,z2,z3,z4,z5⟩:=wn6 (t:=c.2.2) (by omega) (by omega)
 try simp only [x1,x2,x3,x4,x5,y1,y2,y3,y4,y5,z1,z2,z3,z4,z5]
 exact h
theorem cell85_20 {c:Cl} {R:V→Prop} (hb:Bd 3000 c) (h:R (.agg (clr (tn 20 c)))):K0G Tryd.prog glX 41 [(chC 0 3),.agg (clr c)] R:=by
 refine K0_by hmX hcT 3000 Tryd.func41 (p:=R (V.agg [iv (IntKind.i64.wrap (0 - (IntKind.i64.wrap (0 - (IntKind.i64.wrap (0 - c.2.2)))))),iv (IntKind.i64.wrap (0 - c.1)),iv c.2.1])) (by kernel_rfl) ?_
 unfold Bd Nr at hb
 obtain ⟨x1,x2,x3,x4,x5⟩:=wn6 (t:=c.1) (by omega) (by omega)
 obtain ⟨y1,y2,y3,y4,y5⟩:=wn6 (t:=c.2.1) (by omega) (by omega)
 obtain ⟨z1,z2,z3,z4,z5⟩:=wn6 (t:=c.2.2) (by omega) (by omega)
 try simp only [x1,x2,x3,x4,x5,y1,y2,y3,y4,y5,z1,z2,z3,z4,z5]
 exact h
theorem chain82_20 {R:V→Prop} (h:R (chC 0 3)):K0G Tryd.prog glX 40 [iv 20] R:=K0_by hmX hcT 3000 Tryd.func40 (p:=R (chC 0 3)) (by kernel_rfl) h
theorem turned100_20 {c:Cl} {R:V→Prop} (hb:Bd 3000 c) (h:R (.agg (clr (tn 20 c)))):K0G Tryd.prog glX 28 [.agg (clr c),iv 20] R:=by
 refine K0_by hmX hcV 3000 Tryd.func28 (p:=R (V.agg [iv (IntKind.i64.wrap (0 - (IntKind.i64.wrap (0 - (IntKind.i64.wrap (0 - c.2.2)))))),iv (IntKind.i64.wrap (0 - c.1)),iv c.2.1])) (by kernel_rfl) ?_
 unfold Bd Nr at hb
 obtain ⟨x1,x2,x3,x4,x5⟩:=wn6 (t:=c.1) (by omega) (by omega)
 obtain ⟨y1,y2,y3,y4,y5⟩:=wn6 (t:=c.2.1) (by omega) (by omega)
 obtain ⟨z1,z2,z3,z4,z5⟩:=wn6 (t:=c.2.2) (by omega) (by omega)
 try simp only [x1,x2,x3,x4,x5,y1,y2,y3,y4,y5,z1,z2,z3,z4,z5]
 exact h
theorem cell85_21 {c:Cl} {R:V→Prop} (hb:Bd 3000 c) (h:R (.agg (clr (tn 21 c)))):K0G Tryd.prog glX 41 [(chC 1 3),.agg (clr c)] R:=by
 refine K0_by hmX hcT 3000 Tryd.func41 (p:=R (V.agg [iv (IntKind.i64.wrap (0 - (IntKind.i64.wrap (0 - (IntKind.i64.wrap (0 - c.2.2)))))),iv (IntKind.i64.wrap (0 - (IntKind.i64.wrap (0 - c.2.1)))),iv c.1])) (by kernel_rfl) ?_
 unfold Bd Nr at hb
 obtain ⟨x1,x2,x3,x4,x5⟩:=wn6 (t:=c.1) (by omega) (by omega)
 obtain ⟨y1,y2,y3,y4,y5⟩:=wn6 (t:=c.2.1) (by omega) (by omega)
 obtain ⟨z1,z2,z3,z4,z5⟩:=wn6 (t:=c.2.2) (by omega) (by omega)
 try simp only [x1,x2,x3,x4,x5,y1,y2,y3,y4,y5,z1,z2,z3,z4,z5]
 exact h
theorem chain82_21 {R:V→Prop} (h:R (chC 1 3)):K0G Tryd.prog glX 40 [iv 21] R:=K0_by hmX hcT 3000 Tryd.func40 (p:=R (chC 1 3)) (by kernel_rfl) h
theorem turned100_21 {c:Cl} {R:V→Prop} (hb:Bd 3000 c) (h:R (.agg (clr (tn 21 c)))):K0G Tryd.prog glX 28 [.agg (clr c),iv 21] R:=by
 refine K0_by hmX hcV 3000 Tryd.func28 (p:=R (V.agg [iv (IntKind.i64.wrap (0 - (IntKind.i64.wrap (0 - (IntKind.i64.wrap (0 - c.2.2)))))),iv (IntKind.i64.wrap (0 - (IntKind.i64.wrap (0 - c.2.1)))),iv c.1])) (by kernel_rfl) ?_
 unfold Bd Nr at hb
 obtain ⟨x1,x2,x3,x4,x5⟩:=wn6 (t:=c.1) (by omega) (by omega)
 obtain ⟨y1,y2,y3,y4,y5⟩:=wn6 (t:=c.2.1) (by omega) (by omega)
 obtain ⟨z1,z2,z3,z4,z5⟩:=wn6 (t:=c.2.2) (by omega) (by omega)
 try simp only [x1,x2,x3,x4,x5,y1,y2,y3,y4,y5,z1,z2,z3,z4,z5]
 exact h
theorem cell85_22 {c:Cl} {R:V→Prop} (hb:Bd 3000 c) (h:R (.agg (clr (tn 22 c)))):K0G Tryd.prog glX 41 [(chC 2 3),.agg (clr c)] R:=by
 refine K0_by hmX hcT 3000 Tryd.func41 (p:=R (V.agg [iv (IntKind.i64.wrap (0 - (IntKind.i64.wrap (0 - (IntKind.i64.wrap (0 - c.2.2)))))),iv (IntKind.i64.wrap (0 - (IntKind.i64.wrap (0 - c.1)))),iv (IntKind.i64.wrap (0 - c.2.1))])) (by kernel_rfl) ?_
 unfold Bd Nr at hb
 obtain ⟨x1,x2,x3,x4,x5⟩:=wn6 (t:=c.1) (by omega) (by omega)
 obtain ⟨y1,y2,y3,y4,y5⟩:=wn6 (t:=c.2.1) (by omega) (by omega)
 obtain ⟨z1,z2,z3,z4,z5⟩:=wn6 (t:=c.2.2) (by omega) (by omega)
 try simp only [x1,x2,x3,x4,x5,y1,y2,y3,y4,y5,z1,z2,z3,z4,z5]
 exact h
theorem chain82_22 {R:V→Prop} (h:R (chC 2 3)):K0G Tryd.prog glX 40 [iv 22] R:=K0_by hmX hcT 3000 Tryd.func40 (p:=R (chC 2 3)) (by kernel_rfl) h
theorem turned100_22 {c:Cl} {R:V→Prop} (hb:Bd 3000 c) (h:R (.agg (clr (tn 22 c)))):K0G Tryd.prog glX 28 [.agg (clr c),iv 22] R:=by
 refine K0_by hmX hcV 3000 Tryd.func28 (p:=R (V.agg [iv (IntKind.i64.wrap (0 - (IntKind.i64.wrap (0 - (IntKind.i64.wrap (0 - c.2.2)))))),iv (IntKind.i64.wrap (0 - (IntKind.i64.wrap (0 - c.1)))),iv (IntKind.i64.wrap (0 - c.2.1))])) (by kernel_rfl) ?_
 unfold Bd Nr at hb
 obtain ⟨x1,x2,x3,x4,x5⟩:=wn6 (t:=c.1) (by omega) (by omega)
 obtain ⟨y1,y2,y3,y4,y5⟩:=wn6 (t:=c.2.1) (by omega) (by omega)
 obtain ⟨z1,z2,z3,z4,z5⟩:=wn6 (t:=c.2.2) (by omega) (by omega)
 try simp only [x1,x2,x3,x4,x5,y1,y2,y3,y4,y5,z1,z2,z3,z4,z5]
 exact h
theorem cell85_23 {c:Cl} {R:V→Prop} (hb:Bd 3000 c) (h:R (.agg (clr (tn 23 c)))):K0G Tryd.prog glX 41 [(chC 3 3),.agg (clr c)] R:=by
 refine K0_by hmX hcT 3000 Tryd.func41 (p:=R (V.agg [iv (IntKind.i64.wrap (0 - (IntKind.i64.wrap (0 - (IntKind.i64.wrap (0 - c.2.2)))))),iv (IntKind.i64.wrap (0 - (IntKind.i64.wrap (0 - (IntKind.i64.wrap (0 - c.2.1)))))),iv (IntKind.i64.wrap (0 - c.1))])) (by kernel_rfl) ?_
 unfold Bd Nr at hb
 obtain ⟨x1,x2,x3,x4,x5⟩:=wn6 (t:=c.1) (by omega) (by omega)
 obtain ⟨y1,y2,y3,y4,y5⟩:=wn6 (t:=c.2.1) (by omega) (by omega)
 obtain ⟨z1,z2,z3,z4,z5⟩:=wn6 (t:=c.2.2) (by omega) (by omega)
 try simp only [x1,x2,x3,x4,x5,y1,y2,y3,y4,y5,z1,z2,z3,z4,z5]
 exact h
theorem chain82_23 {R:V→Prop} (h:R (chC 3 3)):K0G Tryd.prog glX 40 [iv 23] R:=K0_by hmX hcT 3000 Tryd.func40 (p:=R (chC 3 3)) (by kernel_rfl) h
theorem turned100_23 {c:Cl} {R:V→Prop} (hb:Bd 3000 c) (h:R (.agg (clr (tn 23 c)))):K0G Tryd.prog glX 28 [.agg (clr c),iv 23] R:=by
 refine K0_by hmX hcV 3000 Tryd.func28 (p:=R (V.agg [iv (IntKind.i64.wrap (0 - (IntKind.i64.wrap (0 - (IntKind.i64.wrap (0 - c.2.2)))))),iv (IntKind.i64.wrap (0 - (IntKind.i64.wrap (0 - (IntKind.i64.wrap (0 - c.2.1)))))),iv (IntKind.i64.wrap (0 - c.1))])) (by kernel_rfl) ?_
 unfold Bd Nr at hb
 obtain ⟨x1,x2,x3,x4,x5⟩:=wn6 (t:=c.1) (by omega) (by omega)
 obtain ⟨y1,y2,y3,y4,y5⟩:=wn6 (t:=c.2.1) (by omega) (by omega)
 obtain ⟨z1,z2,z3,z4,z5⟩:=wn6 (t:=c.2.2) (by omega) (by omega)
 try simp only [x1,x2,x3,x4,x5,y1,y2,y3,y4,y5,z1,z2,z3,z4,z5]
 exact h
def ch (n:Nat):V:=if n / 4<1 then chA (n % 4:Nat) else if n / 4<4 then chB (n % 4:Nat) (n / 4:Nat) else chC (n % 4:Nat) (if n / 4=4 then 1 else 3)
theorem cell85 {c:Cl} {R:V→Prop} (hb:Bd 3000 c) : ∀ n:Nat,n<24→R (.agg (clr (tn n c)))→K0G Tryd.prog glX 41 [ch n,.agg (clr c)] R
 | 0,_=>fun h=>cell85_0 hb h
 | 1,_=>fun h=>cell85_1 hb h
 | 2,_=>fun h=>cell85_2 hb h
 | 3,_=>fun h=>cell85_3 hb h
 | 4,_=>fun h=>cell85_4 hb h
 | 5,_=>fun h=>cell85_5 hb h
 | 6,_=>fun h=>cell85_6 hb h
 | 7,_=>fun h=>cell85_7 hb h
 | 8,_=>fun h=>cell85_8 hb h
 | 9,_=>fun h=>cell85_9 hb h
 | 10,_=>fun h=>cell85_10 hb h
 | 11,_=>fun h=>cell85_11 hb h
 | 12,_=>fun h=>cell85_12 hb h
 | 13,_=>fun h=>cell85_13 hb h
 | 14,_=>fun h=>cell85_14 hb h
 | 15,_=>fun h=>cell85_15 hb h
 | 16,_=>fun h=>cell85_16 hb h
 | 17,_=>fun h=>cell85_17 hb h
 | 18,_=>fun h=>cell85_18 hb h
 | 19,_=>fun h=>cell85_19 hb h
 | 20,_=>fun h=>cell85_20 hb h
 | 21,_=>fun h=>cell85_21 hb h
 | 22,_=>fun h=>cell85_22 hb h
 | 23,_=>fun h=>cell85_23 hb h
 | n+24,h=>absurd h (by omega)
theorem chain82 {R:V→Prop} : ∀ n:Nat,n<24→R (ch n)→K0G Tryd.prog glX 40 [iv (n:Int)] R
 | 0,_=>fun h=>chain82_0 h
 | 1,_=>fun h=>chain82_1 h
 | 2,_=>fun h=>chain82_2 h
 | 3,_=>fun h=>chain82_3 h
 | 4,_=>fun h=>chain82_4 h
 | 5,_=>fun h=>chain82_5 h
 | 6,_=>fun h=>chain82_6 h
 | 7,_=>fun h=>chain82_7 h
 | 8,_=>fun h=>chain82_8 h
 | 9,_=>fun h=>chain82_9 h
 | 10,_=>fun h=>chain82_10 h
 | 11,_=>fun h=>chain82_11 h
 | 12,_=>fun h=>chain82_12 h
 | 13,_=>fun h=>chain82_13 h
 | 14,_=>fun h=>chain82_14 h
 | 15,_=>fun h=>chain82_15 h
 | 16,_=>fun h=>chain82_16 h
 | 17,_=>fun h=>chain82_17 h
 | 18,_=>fun h=>chain82_18 h
 | 19,_=>fun h=>chain82_19 h
 | 20,_=>fun h=>chain82_20 h
 | 21,_=>fun h=>chain82_21 h
 | 22,_=>fun h=>chain82_22 h
 | 23,_=>fun h=>chain82_23 h
 | n+24,h=>absurd h (by omega)
theorem turned100 {c:Cl} {R:V→Prop} (hb:Bd 3000 c) : ∀ n:Nat,n<24→R (.agg (clr (tn n c)))→K0G Tryd.prog glX 28 [.agg (clr c),iv (n:Int)] R
 | 0,_=>fun h=>turned100_0 hb h
 | 1,_=>fun h=>turned100_1 hb h
 | 2,_=>fun h=>turned100_2 hb h
 | 3,_=>fun h=>turned100_3 hb h
 | 4,_=>fun h=>turned100_4 hb h
 | 5,_=>fun h=>turned100_5 hb h
 | 6,_=>fun h=>turned100_6 hb h
 | 7,_=>fun h=>turned100_7 hb h
 | 8,_=>fun h=>turned100_8 hb h
 | 9,_=>fun h=>turned100_9 hb h
 | 10,_=>fun h=>turned100_10 hb h
 | 11,_=>fun h=>turned100_11 hb h
 | 12,_=>fun h=>turned100_12 hb h
 | 13,_=>fun h=>turned100_13 hb h
 | 14,_=>fun h=>turned100_14 hb h
 | 15,_=>fun h=>turned100_15 hb h
 | 16,_=>fun h=>turned100_16 hb h
 | 17,_=>fun h=>turned100_17 hb h
 | 18,_=>fun h=>turned100_18 hb h
 | 19,_=>fun h=>turned100_19 hb h
 | 20,_=>fun h=>turned100_20 hb h
 | 21,_=>fun h=>turned100_21 hb h
 | 22,_=>fun h=>turned100_22 hb h
 | 23,_=>fun h=>turned100_23 hb h
 | n+24,h=>absurd h (by omega)
def ptL:List (List Int):=[[0,1,2,3,4,5],[2,3,1,0,4,5],[1,0,3,2,4,5],[3,2,0,1,4,5],[0,1,4,5,3,2],[4,5,1,0,3,2],[1,0,5,4,3,2],[5,4,0,1,3,2],[0,1,3,2,5,4],[3,2,1,0,5,4],[1,0,2,3,5,4],[2,3,0,1,5,4],[0,1,5,4,2,3],[5,4,1,0,2,3],[1,0,4,5,2,3],[4,5,0,1,2,3],[2,3,4,5,0,1],[4,5,3,2,0,1],[3,2,5,4,0,1],[5,4,2,3,0,1],[3,2,4,5,1,0],[4,5,2,3,1,0],[2,3,5,4,1,0],[5,4,3,2,1,0]]
def pt (n:Nat) (d:Int):Int:=(ptL.getD n []).getD d.toNat 0
theorem dir83_0_0 {R:V→Prop} (h:R (iv 0)):K0G Tryd.prog glX 52 [(chA 0),iv 0] R:=K0_by hmX hcU 3000 Tryd.func52 (p:=R (iv 0)) (by kernel_rfl) h
theorem dir83_0_1 {R:V→Prop} (h:R (iv 1)):K0G Tryd.prog glX 52 [(chA 0),iv 1] R:=K0_by hmX hcU 3000 Tryd.func52 (p:=R (iv 1)) (by kernel_rfl) h
theorem dir83_0_2 {R:V→Prop} (h:R (iv 2)):K0G Tryd.prog glX 52 [(chA 0),iv 2] R:=K0_by hmX hcU 3000 Tryd.func52 (p:=R (iv 2)) (by kernel_rfl) h
theorem dir83_0_3 {R:V→Prop} (h:R (iv 3)):K0G Tryd.prog glX 52 [(chA 0),iv 3] R:=K0_by hmX hcU 3000 Tryd.func52 (p:=R (iv 3)) (by kernel_rfl) h
theorem dir83_0_4 {R:V→Prop} (h:R (iv 4)):K0G Tryd.prog glX 52 [(chA 0),iv 4] R:=K0_by hmX hcU 3000 Tryd.func52 (p:=R (iv 4)) (by kernel_rfl) h
theorem dir83_0_5 {R:V→Prop} (h:R (iv 5)):K0G Tryd.prog glX 52 [(chA 0),iv 5] R:=K0_by hmX hcU 3000 Tryd.func52 (p:=R (iv 5)) (by kernel_rfl) h
theorem dir83_1_0 {R:V→Prop} (h:R (iv 2)):K0G Tryd.prog glX 52 [(chA 1),iv 0] R:=K0_by hmX hcU 3000 Tryd.func52 (p:=R (iv 2)) (by kernel_rfl) h
theorem dir83_1_1 {R:V→Prop} (h:R (iv 3)):K0G Tryd.prog glX 52 [(chA 1),iv 1] R:=K0_by hmX hcU 3000 Tryd.func52 (p:=R (iv 3)) (by kernel_rfl) h
theorem dir83_1_2 {R:V→Prop} (h:R (iv 1)):K0G Tryd.prog glX 52 [(chA 1),iv 2] R:=K0_by hmX hcU 3000 Tryd.func52 (p:=R (iv 1)) (by kernel_rfl) h
theorem dir83_1_3 {R:V→Prop} (h:R (iv 0)):K0G Tryd.prog glX 52 [(chA 1),iv 3] R:=K0_by hmX hcU 3000 Tryd.func52 (p:=R (iv 0)) (by kernel_rfl) h
theorem dir83_1_4 {R:V→Prop} (h:R (iv 4)):K0G Tryd.prog glX 52 [(chA 1),iv 4] R:=K0_by hmX hcU 3000 Tryd.func52 (p:=R (iv 4)) (by kernel_rfl) h
theorem dir83_1_5 {R:V→Prop} (h:R (iv 5)):K0G Tryd.prog glX 52 [(chA 1),iv 5] R:=K0_by hmX hcU 3000 Tryd.func52 (p:=R (iv 5)) (by kernel_rfl) h
theorem dir83_2_0 {R:V→Prop} (h:R (iv 1)):K0G Tryd.prog glX 52 [(chA 2),iv 0] R:=K0_by hmX hcU 3000 Tryd.func52 (p:=R (iv 1)) (by kernel_rfl) h
theorem dir83_2_1 {R:V→Prop} (h:R (iv 0)):K0G Tryd.prog glX 52 [(chA 2),iv 1] R:=K0_by hmX hcU 3000 Tryd.func52 (p:=R (iv 0)) (by kernel_rfl) h
theorem dir83_2_2 {R:V→Prop} (h:R (iv 3)):K0G Tryd.prog glX 52 [(chA 2),iv 2] R:=K0_by hmX hcU 3000 Tryd.func52 (p:=R (iv 3)) (by kernel_rfl) h
theorem dir83_2_3 {R:V→Prop} (h:R (iv 2)):K0G Tryd.prog glX 52 [(chA 2),iv 3] R:=K0_by hmX hcU 3000 Tryd.func52 (p:=R (iv 2)) (by kernel_rfl) h
theorem dir83_2_4 {R:V→Prop} (h:R (iv 4)):K0G Tryd.prog glX 52 [(chA 2),iv 4] R:=K0_by hmX hcU 3000 Tryd.func52 (p:=R (iv 4)) (by kernel_rfl) h
theorem dir83_2_5 {R:V→Prop} (h:R (iv 5)):K0G Tryd.prog glX 52 [(chA 2),iv 5] R:=K0_by hmX hcU 3000 Tryd.func52 (p:=R (iv 5)) (by kernel_rfl) h
theorem dir83_3_0 {R:V→Prop} (h:R (iv 3)):K0G Tryd.prog glX 52 [(chA 3),iv 0] R:=K0_by hmX hcU 3000 Tryd.func52 (p:=R (iv 3)) (by kernel_rfl) h
theorem dir83_3_1 {R:V→Prop} (h:R (iv 2)):K0G Tryd.prog glX 52 [(chA 3),iv 1] R:=K0_by hmX hcU 3000 Tryd.func52 (p:=R (iv 2)) (by kernel_rfl) h
theorem dir83_3_2 {R:V→Prop} (h:R (iv 0)):K0G Tryd.prog glX 52 [(chA 3),iv 2] R:=K0_by hmX hcU 3000 Tryd.func52 (p:=R (iv 0)) (by kernel_rfl) h
theorem dir83_3_3 {R:V→Prop} (h:R (iv 1)):K0G Tryd.prog glX 52 [(chA 3),iv 3] R:=K0_by hmX hcU 3000 Tryd.func52 (p:=R (iv 1)) (by kernel_rfl) h
theorem dir83_3_4 {R:V→Prop} (h:R (iv 4)):K0G Tryd.prog glX 52 [(chA 3),iv 4] R:=K0_by hmX hcU 3000 Tryd.func52 (p:=R (iv 4)) (by kernel_rfl) h
theorem dir83_3_5 {R:V→Prop} (h:R (iv 5)):K0G Tryd.prog glX 52 [(chA 3),iv 5] R:=K0_by hmX hcU 3000 Tryd.func52 (p:=R (iv 5)) (by kernel_rfl) h
theorem dir83_4_0 {R:V→Prop} (h:R (iv 0)):K0G Tryd.prog glX 52 [(chB 0 1),iv 0] R:=K0_by hmX hcU 3000 Tryd.func52 (p:=R (iv 0)) (by kernel_rfl) h
theorem dir83_4_1 {R:V→Prop} (h:R (iv 1)):K0G Tryd.prog glX 52 [(chB 0 1),iv 1] R:=K0_by hmX hcU 3000 Tryd.func52 (p:=R (iv 1)) (by kernel_rfl) h
theorem dir83_4_2 {R:V→Prop} (h:R (iv 4)):K0G Tryd.prog glX 52 [(chB 0 1),iv 2] R:=K0_by hmX hcU 3000 Tryd.func52 (p:=R (iv 4)) (by kernel_rfl) h
theorem dir83_4_3 {R:V→Prop} (h:R (iv 5)):K0G Tryd.prog glX 52 [(chB 0 1),iv 3] R:=K0_by hmX hcU 3000 Tryd.func52 (p:=R (iv 5)) (by kernel_rfl) h
theorem dir83_4_4 {R:V→Prop} (h:R (iv 3)):K0G Tryd.prog glX 52 [(chB 0 1),iv 4] R:=K0_by hmX hcU 3000 Tryd.func52 (p:=R (iv 3)) (by kernel_rfl) h
theorem dir83_4_5 {R:V→Prop} (h:R (iv 2)):K0G Tryd.prog glX 52 [(chB 0 1),iv 5] R:=K0_by hmX hcU 3000 Tryd.func52 (p:=R (iv 2)) (by kernel_rfl) h
theorem dir83_5_0 {R:V→Prop} (h:R (iv 4)):K0G Tryd.prog glX 52 [(chB 1 1),iv 0] R:=K0_by hmX hcU 3000 Tryd.func52 (p:=R (iv 4)) (by kernel_rfl) h
theorem dir83_5_1 {R:V→Prop} (h:R (iv 5)):K0G Tryd.prog glX 52 [(chB 1 1),iv 1] R:=K0_by hmX hcU 3000 Tryd.func52 (p:=R (iv 5)) (by kernel_rfl) h
theorem dir83_5_2 {R:V→Prop} (h:R (iv 1)):K0G Tryd.prog glX 52 [(chB 1 1),iv 2] R:=K0_by hmX hcU 3000 Tryd.func52 (p:=R (iv 1)) (by kernel_rfl) h
theorem dir83_5_3 {R:V→Prop} (h:R (iv 0)):K0G Tryd.prog glX 52 [(chB 1 1),iv 3] R:=K0_by hmX hcU 3000 Tryd.func52 (p:=R (iv 0)) (by kernel_rfl) h
theorem dir83_5_4 {R:V→Prop} (h:R (iv 3)):K0G Tryd.prog glX 52 [(chB 1 1),iv 4] R:=K0_by hmX hcU 3000 Tryd.func52 (p:=R (iv 3)) (by kernel_rfl) h
theorem dir83_5_5 {R:V→Prop} (h:R (iv 2)):K0G Tryd.prog glX 52 [(chB 1 1),iv 5] R:=K0_by hmX hcU 3000 Tryd.func52 (p:=R (iv 2)) (by kernel_rfl) h
theorem dir83_6_0 {R:V→Prop} (h:R (iv 1)):K0G Tryd.prog glX 52 [(chB 2 1),iv 0] R:=K0_by hmX hcU 3000 Tryd.func52 (p:=R (iv 1)) (by kernel_rfl) h
theorem dir83_6_1 {R:V→Prop} (h:R (iv 0)):K0G Tryd.prog glX 52 [(chB 2 1),iv 1] R:=K0_by hmX hcU 3000 Tryd.func52 (p:=R (iv 0)) (by kernel_rfl) h
theorem dir83_6_2 {R:V→Prop} (h:R (iv 5)):K0G Tryd.prog glX 52 [(chB 2 1),iv 2] R:=K0_by hmX hcU 3000 Tryd.func52 (p:=R (iv 5)) (by kernel_rfl) h
theorem dir83_6_3 {R:V→Prop} (h:R (iv 4)):K0G Tryd.prog glX 52 [(chB 2 1),iv 3] R:=K0_by hmX hcU 3000 Tryd.func52 (p:=R (iv 4)) (by kernel_rfl) h
theorem dir83_6_4 {R:V→Prop} (h:R (iv 3)):K0G Tryd.prog glX 52 [(chB 2 1),iv 4] R:=K0_by hmX hcU 3000 Tryd.func52 (p:=R (iv 3)) (by kernel_rfl) h
theorem dir83_6_5 {R:V→Prop} (h:R (iv 2)):K0G Tryd.prog glX 52 [(chB 2 1),iv 5] R:=K0_by hmX hcU 3000 Tryd.func52 (p:=R (iv 2)) (by kernel_rfl) h
theorem dir83_7_0 {R:V→Prop} (h:R (iv 5)):K0G Tryd.prog glX 52 [(chB 3 1),iv 0] R:=K0_by hmX hcU 3000 Tryd.func52 (p:=R (iv 5)) (by kernel_rfl) h
theorem dir83_7_1 {R:V→Prop} (h:R (iv 4)):K0G Tryd.prog glX 52 [(chB 3 1),iv 1] R:=K0_by hmX hcU 3000 Tryd.func52 (p:=R (iv 4)) (by kernel_rfl) h
theorem dir83_7_2 {R:V→Prop} (h:R (iv 0)):K0G Tryd.prog glX 52 [(chB 3 1),iv 2] R:=K0_by hmX hcU 3000 Tryd.func52 (p:=R (iv 0)) (by kernel_rfl) h
theorem dir83_7_3 {R:V→Prop} (h:R (iv 1)):K0G Tryd.prog glX 52 [(chB 3 1),iv 3] R:=K0_by hmX hcU 3000 Tryd.func52 (p:=R (iv 1)) (by kernel_rfl) h
theorem dir83_7_4 {R:V→Prop} (h:R (iv 3)):K0G Tryd.prog glX 52 [(chB 3 1),iv 4] R:=K0_by hmX hcU 3000 Tryd.func52 (p:=R (iv 3)) (by kernel_rfl) h
theorem dir83_7_5 {R:V→Prop} (h:R (iv 2)):K0G Tryd.prog glX 52 [(chB 3 1),iv 5] R:=K0_by hmX hcU 3000 Tryd.func52 (p:=R (iv 2)) (by kernel_rfl) h
theorem dir83_8_0 {R:V→Prop} (h:R (iv 0)):K0G Tryd.prog glX 52 [(chB 0 2),iv 0] R:=K0_by hmX hcU 3000 Tryd.func52 (p:=R (iv 0)) (by kernel_rfl) h
theorem dir83_8_1 {R:V→Prop} (h:R (iv 1)):K0G Tryd.prog glX 52 [(chB 0 2),iv 1] R:=K0_by hmX hcU 3000 Tryd.func52 (p:=R (iv 1)) (by kernel_rfl) h
theorem dir83_8_2 {R:V→Prop} (h:R (iv 3)):K0G Tryd.prog glX 52 [(chB 0 2),iv 2] R:=K0_by hmX hcU 3000 Tryd.func52 (p:=R (iv 3)) (by kernel_rfl) h
theorem dir83_8_3 {R:V→Prop} (h:R (iv 2)):K0G Tryd.prog glX 52 [(chB 0 2),iv 3] R:=K0_by hmX hcU 3000 Tryd.func52 (p:=R (iv 2)) (by kernel_rfl) h
theorem dir83_8_4 {R:V→Prop} (h:R (iv 5)):K0G Tryd.prog glX 52 [(chB 0 2),iv 4] R:=K0_by hmX hcU 3000 Tryd.func52 (p:=R (iv 5)) (by kernel_rfl) h
theorem dir83_8_5 {R:V→Prop} (h:R (iv 4)):K0G Tryd.prog glX 52 [(chB 0 2),iv 5] R:=K0_by hmX hcU 3000 Tryd.func52 (p:=R (iv 4)) (by kernel_rfl) h
theorem dir83_9_0 {R:V→Prop} (h:R (iv 3)):K0G Tryd.prog glX 52 [(chB 1 2),iv 0] R:=K0_by hmX hcU 3000 Tryd.func52 (p:=R (iv 3)) (by kernel_rfl) h
theorem dir83_9_1 {R:V→Prop} (h:R (iv 2)):K0G Tryd.prog glX 52 [(chB 1 2),iv 1] R:=K0_by hmX hcU 3000 Tryd.func52 (p:=R (iv 2)) (by kernel_rfl) h
theorem dir83_9_2 {R:V→Prop} (h:R (iv 1)):K0G Tryd.prog glX 52 [(chB 1 2),iv 2] R:=K0_by hmX hcU 3000 Tryd.func52 (p:=R (iv 1)) (by kernel_rfl) h
theorem dir83_9_3 {R:V→Prop} (h:R (iv 0)):K0G Tryd.prog glX 52 [(chB 1 2),iv 3] R:=K0_by hmX hcU 3000 Tryd.func52 (p:=R (iv 0)) (by kernel_rfl) h
theorem dir83_9_4 {R:V→Prop} (h:R (iv 5)):K0G Tryd.prog glX 52 [(chB 1 2),iv 4] R:=K0_by hmX hcU 3000 Tryd.func52 (p:=R (iv 5)) (by kernel_rfl) h
theorem dir83_9_5 {R:V→Prop} (h:R (iv 4)):K0G Tryd.prog glX 52 [(chB 1 2),iv 5] R:=K0_by hmX hcU 3000 Tryd.func52 (p:=R (iv 4)) (by kernel_rfl) h
theorem dir83_10_0 {R:V→Prop} (h:R (iv 1)):K0G Tryd.prog glX 52 [(chB 2 2),iv 0] R:=K0_by hmX hcU 3000 Tryd.func52 (p:=R (iv 1)) (by kernel_rfl) h
theorem dir83_10_1 {R:V→Prop} (h:R (iv 0)):K0G Tryd.prog glX 52 [(chB 2 2),iv 1] R:=K0_by hmX hcU 3000 Tryd.func52 (p:=R (iv 0)) (by kernel_rfl) h
theorem dir83_10_2 {R:V→Prop} (h:R (iv 2)):K0G Tryd.prog glX 52 [(chB 2 2),iv 2] R:=K0_by hmX hcU 3000 Tryd.func52 (p:=R (iv 2)) (by kernel_rfl) h
theorem dir83_10_3 {R:V→Prop} (h:R (iv 3)):K0G Tryd.prog glX 52 [(chB 2 2),iv 3] R:=K0_by hmX hcU 3000 Tryd.func52 (p:=R (iv 3)) (by kernel_rfl) h
theorem dir83_10_4 {R:V→Prop} (h:R (iv 5)):K0G Tryd.prog glX 52 [(chB 2 2),iv 4] R:=K0_by hmX hcU 3000 Tryd.func52 (p:=R (iv 5)) (by kernel_rfl) h
theorem dir83_10_5 {R:V→Prop} (h:R (iv 4)):K0G Tryd.prog glX 52 [(chB 2 2),iv 5] R:=K0_by hmX hcU 3000 Tryd.func52 (p:=R (iv 4)) (by kernel_rfl) h
theorem dir83_11_0 {R:V→Prop} (h:R (iv 2)):K0G Tryd.prog glX 52 [(chB 3 2),iv 0] R:=K0_by hmX hcU 3000 Tryd.func52 (p:=R (iv 2)) (by kernel_rfl) h
theorem dir83_11_1 {R:V→Prop} (h:R (iv 3)):K0G Tryd.prog glX 52 [(chB 3 2),iv 1] R:=K0_by hmX hcU 3000 Tryd.func52 (p:=R (iv 3)) (by kernel_rfl) h
theorem dir83_11_2 {R:V→Prop} (h:R (iv 0)):K0G Tryd.prog glX 52 [(chB 3 2),iv 2] R:=K0_by hmX hcU 3000 Tryd.func52 (p:=R (iv 0)) (by kernel_rfl) h
theorem dir83_11_3 {R:V→Prop} (h:R (iv 1)):K0G Tryd.prog glX 52 [(chB 3 2),iv 3] R:=K0_by hmX hcU 3000 Tryd.func52 (p:=R (iv 1)) (by kernel_rfl) h
theorem dir83_11_4 {R:V→Prop} (h:R (iv 5)):K0G Tryd.prog glX 52 [(chB 3 2),iv 4] R:=K0_by hmX hcU 3000 Tryd.func52 (p:=R (iv 5)) (by kernel_rfl) h
theorem dir83_11_5 {R:V→Prop} (h:R (iv 4)):K0G Tryd.prog glX 52 [(chB 3 2),iv 5] R:=K0_by hmX hcU 3000 Tryd.func52 (p:=R (iv 4)) (by kernel_rfl) h
theorem dir83_12_0 {R:V→Prop} (h:R (iv 0)):K0G Tryd.prog glX 52 [(chB 0 3),iv 0] R:=K0_by hmX hcU 3000 Tryd.func52 (p:=R (iv 0)) (by kernel_rfl) h
theorem dir83_12_1 {R:V→Prop} (h:R (iv 1)):K0G Tryd.prog glX 52 [(chB 0 3),iv 1] R:=K0_by hmX hcU 3000 Tryd.func52 (p:=R (iv 1)) (by kernel_rfl) h
theorem dir83_12_2 {R:V→Prop} (h:R (iv 5)):K0G Tryd.prog glX 52 [(chB 0 3),iv 2] R:=K0_by hmX hcU 3000 Tryd.func52 (p:=R (iv 5)) (by kernel_rfl) h
theorem dir83_12_3 {R:V→Prop} (h:R (iv 4)):K0G Tryd.prog glX 52 [(chB 0 3),iv 3] R:=K0_by hmX hcU 3000 Tryd.func52 (p:=R (iv 4)) (by kernel_rfl) h
theorem dir83_12_4 {R:V→Prop} (h:R (iv 2)):K0G Tryd.prog glX 52 [(chB 0 3),iv 4] R:=K0_by hmX hcU 3000 Tryd.func52 (p:=R (iv 2)) (by kernel_rfl) h
theorem dir83_12_5 {R:V→Prop} (h:R (iv 3)):K0G Tryd.prog glX 52 [(chB 0 3),iv 5] R:=K0_by hmX hcU 3000 Tryd.func52 (p:=R (iv 3)) (by kernel_rfl) h
theorem dir83_13_0 {R:V→Prop} (h:R (iv 5)):K0G Tryd.prog glX 52 [(chB 1 3),iv 0] R:=K0_by hmX hcU 3000 Tryd.func52 (p:=R (iv 5)) (by kernel_rfl) h
theorem dir83_13_1 {R:V→Prop} (h:R (iv 4)):K0G Tryd.prog glX 52 [(chB 1 3),iv 1] R:=K0_by hmX hcU 3000 Tryd.func52 (p:=R (iv 4)) (by kernel_rfl) h
theorem dir83_13_2 {R:V→Prop} (h:R (iv 1)):K0G Tryd.prog glX 52 [(chB 1 3),iv 2] R:=K0_by hmX hcU 3000 Tryd.func52 (p:=R (iv 1)) (by kernel_rfl) h
theorem dir83_13_3 {R:V→Prop} (h:R (iv 0)):K0G Tryd.prog glX 52 [(chB 1 3),iv 3] R:=K0_by hmX hcU 3000 Tryd.func52 (p:=R (iv 0)) (by kernel_rfl) h
theorem dir83_13_4 {R:V→Prop} (h:R (iv 2)):K0G Tryd.prog glX 52 [(chB 1 3),iv 4] R:=K0_by hmX hcU 3000 Tryd.func52 (p:=R (iv 2)) (by kernel_rfl) h
theorem dir83_13_5 {R:V→Prop} (h:R (iv 3)):K0G Tryd.prog glX 52 [(chB 1 3),iv 5] R:=K0_by hmX hcU 3000 Tryd.func52 (p:=R (iv 3)) (by kernel_rfl) h
theorem dir83_14_0 {R:V→Prop} (h:R (iv 1)):K0G Tryd.prog glX 52 [(chB 2 3),iv 0] R:=K0_by hmX hcU 3000 Tryd.func52 (p:=R (iv 1)) (by kernel_rfl) h
theorem dir83_14_1 {R:V→Prop} (h:R (iv 0)):K0G Tryd.prog glX 52 [(chB 2 3),iv 1] R:=K0_by hmX hcU 3000 Tryd.func52 (p:=R (iv 0)) (by kernel_rfl) h
theorem dir83_14_2 {R:V→Prop} (h:R (iv 4)):K0G Tryd.prog glX 52 [(chB 2 3),iv 2] R:=K0_by hmX hcU 3000 Tryd.func52 (p:=R (iv 4)) (by kernel_rfl) h
theorem dir83_14_3 {R:V→Prop} (h:R (iv 5)):K0G Tryd.prog glX 52 [(chB 2 3),iv 3] R:=K0_by hmX hcU 3000 Tryd.func52 (p:=R (iv 5)) (by kernel_rfl) h
theorem dir83_14_4 {R:V→Prop} (h:R (iv 2)):K0G Tryd.prog glX 52 [(chB 2 3),iv 4] R:=K0_by hmX hcU 3000 Tryd.func52 (p:=R (iv 2)) (by kernel_rfl) h
theorem dir83_14_5 {R:V→Prop} (h:R (iv 3)):K0G Tryd.prog glX 52 [(chB 2 3),iv 5] R:=K0_by hmX hcU 3000 Tryd.func52 (p:=R (iv 3)) (by kernel_rfl) h
theorem dir83_15_0 {R:V→Prop} (h:R (iv 4)):K0G Tryd.prog glX 52 [(chB 3 3),iv 0] R:=K0_by hmX hcU 3000 Tryd.func52 (p:=R (iv 4)) (by kernel_rfl) h
theorem dir83_15_1 {R:V→Prop} (h:R (iv 5)):K0G Tryd.prog glX 52 [(chB 3 3),iv 1] R:=K0_by hmX hcU 3000 Tryd.func52 (p:=R (iv 5)) (by kernel_rfl) h
theorem dir83_15_2 {R:V→Prop} (h:R (iv 0)):K0G Tryd.prog glX 52 [(chB 3 3),iv 2] R:=K0_by hmX hcU 3000 Tryd.func52 (p:=R (iv 0)) (by kernel_rfl) h
theorem dir83_15_3 {R:V→Prop} (h:R (iv 1)):K0G Tryd.prog glX 52 [(chB 3 3),iv 3] R:=K0_by hmX hcU 3000 Tryd.func52 (p:=R (iv 1)) (by kernel_rfl) h
theorem dir83_15_4 {R:V→Prop} (h:R (iv 2)):K0G Tryd.prog glX 52 [(chB 3 3),iv 4] R:=K0_by hmX hcU 3000 Tryd.func52 (p:=R (iv 2)) (by kernel_rfl) h
theorem dir83_15_5 {R:V→Prop} (h:R (iv 3)):K0G Tryd.prog glX 52 [(chB 3 3),iv 5] R:=K0_by hmX hcU 3000 Tryd.func52 (p:=R (iv 3)) (by kernel_rfl) h
theorem dir83_16_0 {R:V→Prop} (h:R (iv 2)):K0G Tryd.prog glX 52 [(chC 0 1),iv 0] R:=K0_by hmX hcU 3000 Tryd.func52 (p:=R (iv 2)) (by kernel_rfl) h
theorem dir83_16_1 {R:V→Prop} (h:R (iv 3)):K0G Tryd.prog glX 52 [(chC 0 1),iv 1] R:=K0_by hmX hcU 3000 Tryd.func52 (p:=R (iv 3)) (by kernel_rfl) h
theorem dir83_16_2 {R:V→Prop} (h:R (iv 4)):K0G Tryd.prog glX 52 [(chC 0 1),iv 2] R:=K0_by hmX hcU 3000 Tryd.func52 (p:=R (iv 4)) (by kernel_rfl) h
theorem dir83_16_3 {R:V→Prop} (h:R (iv 5)):K0G Tryd.prog glX 52 [(chC 0 1),iv 3] R:=K0_by hmX hcU 3000 Tryd.func52 (p:=R (iv 5)) (by kernel_rfl) h
theorem dir83_16_4 {R:V→Prop} (h:R (iv 0)):K0G Tryd.prog glX 52 [(chC 0 1),iv 4] R:=K0_by hmX hcU 3000 Tryd.func52 (p:=R (iv 0)) (by kernel_rfl) h
theorem dir83_16_5 {R:V→Prop} (h:R (iv 1)):K0G Tryd.prog glX 52 [(chC 0 1),iv 5] R:=K0_by hmX hcU 3000 Tryd.func52 (p:=R (iv 1)) (by kernel_rfl) h
theorem dir83_17_0 {R:V→Prop} (h:R (iv 4)):K0G Tryd.prog glX 52 [(chC 1 1),iv 0] R:=K0_by hmX hcU 3000 Tryd.func52 (p:=R (iv 4)) (by kernel_rfl) h
theorem dir83_17_1 {R:V→Prop} (h:R (iv 5)):K0G Tryd.prog glX 52 [(chC 1 1),iv 1] R:=K0_by hmX hcU 3000 Tryd.func52 (p:=R (iv 5)) (by kernel_rfl) h
theorem dir83_17_2 {R:V→Prop} (h:R (iv 3)):K0G Tryd.prog glX 52 [(chC 1 1),iv 2] R:=K0_by hmX hcU 3000 Tryd.func52 (p:=R (iv 3)) (by kernel_rfl) h
theorem dir83_17_3 {R:V→Prop} (h:R (iv 2)):K0G Tryd.prog glX 52 [(chC 1 1),iv 3] R:=K0_by hmX hcU 3000 Tryd.func52 (p:=R (iv 2)) (by kernel_rfl) h
theorem dir83_17_4 {R:V→Prop} (h:R (iv 0)):K0G Tryd.prog glX 52 [(chC 1 1),iv 4] R:=K0_by hmX hcU 3000 Tryd.func52 (p:=R (iv 0)) (by kernel_rfl) h
theorem dir83_17_5 {R:V→Prop} (h:R (iv 1)):K0G Tryd.prog glX 52 [(chC 1 1),iv 5] R:=K0_by hmX hcU 3000 Tryd.func52 (p:=R (iv 1)) (by kernel_rfl) h
theorem dir83_18_0 {R:V→Prop} (h:R (iv 3)):K0G Tryd.prog glX 52 [(chC 2 1),iv 0] R:=K0_by hmX hcU 3000 Tryd.func52 (p:=R (iv 3)) (by kernel_rfl) h
theorem dir83_18_1 {R:V→Prop} (h:R (iv 2)):K0G Tryd.prog glX 52 [(chC 2 1),iv 1] R:=K0_by hmX hcU 3000 Tryd.func52 (p:=R (iv 2)) (by kernel_rfl) h
theorem dir83_18_2 {R:V→Prop} (h:R (iv 5)):K0G Tryd.prog glX 52 [(chC 2 1),iv 2] R:=K0_by hmX hcU 3000 Tryd.func52 (p:=R (iv 5)) (by kernel_rfl) h
theorem dir83_18_3 {R:V→Prop} (h:R (iv 4)):K0G Tryd.prog glX 52 [(chC 2 1),iv 3] R:=K0_by hmX hcU 3000 Tryd.func52 (p:=R (iv 4)) (by kernel_rfl) h
theorem dir83_18_4 {R:V→Prop} (h:R (iv 0)):K0G Tryd.prog glX 52 [(chC 2 1),iv 4] R:=K0_by hmX hcU 3000 Tryd.func52 (p:=R (iv 0)) (by kernel_rfl) h
theorem dir83_18_5 {R:V→Prop} (h:R (iv 1)):K0G Tryd.prog glX 52 [(chC 2 1),iv 5] R:=K0_by hmX hcU 3000 Tryd.func52 (p:=R (iv 1)) (by kernel_rfl) h
theorem dir83_19_0 {R:V→Prop} (h:R (iv 5)):K0G Tryd.prog glX 52 [(chC 3 1),iv 0] R:=K0_by hmX hcU 3000 Tryd.func52 (p:=R (iv 5)) (by kernel_rfl) h
theorem dir83_19_1 {R:V→Prop} (h:R (iv 4)):K0G Tryd.prog glX 52 [(chC 3 1),iv 1] R:=K0_by hmX hcU 3000 Tryd.func52 (p:=R (iv 4)) (by kernel_rfl) h
theorem dir83_19_2 {R:V→Prop} (h:R (iv 2)):K0G Tryd.prog glX 52 [(chC 3 1),iv 2] R:=K0_by hmX hcU 3000 Tryd.func52 (p:=R (iv 2)) (by kernel_rfl) h
theorem dir83_19_3 {R:V→Prop} (h:R (iv 3)):K0G Tryd.prog glX 52 [(chC 3 1),iv 3] R:=K0_by hmX hcU 3000 Tryd.func52 (p:=R (iv 3)) (by kernel_rfl) h
theorem dir83_19_4 {R:V→Prop} (h:R (iv 0)):K0G Tryd.prog glX 52 [(chC 3 1),iv 4] R:=K0_by hmX hcU 3000 Tryd.func52 (p:=R (iv 0)) (by kernel_rfl) h
theorem dir83_19_5 {R:V→Prop} (h:R (iv 1)):K0G Tryd.prog glX 52 [(chC 3 1),iv 5] R:=K0_by hmX hcU 3000 Tryd.func52 (p:=R (iv 1)) (by kernel_rfl) h
theorem dir83_20_0 {R:V→Prop} (h:R (iv 3)):K0G Tryd.prog glX 52 [(chC 0 3),iv 0] R:=K0_by hmX hcU 3000 Tryd.func52 (p:=R (iv 3)) (by kernel_rfl) h
theorem dir83_20_1 {R:V→Prop} (h:R (iv 2)):K0G Tryd.prog glX 52 [(chC 0 3),iv 1] R:=K0_by hmX hcU 3000 Tryd.func52 (p:=R (iv 2)) (by kernel_rfl) h
theorem dir83_20_2 {R:V→Prop} (h:R (iv 4)):K0G Tryd.prog glX 52 [(chC 0 3),iv 2] R:=K0_by hmX hcU 3000 Tryd.func52 (p:=R (iv 4)) (by kernel_rfl) h
theorem dir83_20_3 {R:V→Prop} (h:R (iv 5)):K0G Tryd.prog glX 52 [(chC 0 3),iv 3] R:=K0_by hmX hcU 3000 Tryd.func52 (p:=R (iv 5)) (by kernel_rfl) h
theorem dir83_20_4 {R:V→Prop} (h:R (iv 1)):K0G Tryd.prog glX 52 [(chC 0 3),iv 4] R:=K0_by hmX hcU 3000 Tryd.func52 (p:=R (iv 1)) (by kernel_rfl) h
theorem dir83_20_5 {R:V→Prop} (h:R (iv 0)):K0G Tryd.prog glX 52 [(chC 0 3),iv 5] R:=K0_by hmX hcU 3000 Tryd.func52 (p:=R (iv 0)) (by kernel_rfl) h
theorem dir83_21_0 {R:V→Prop} (h:R (iv 4)):K0G Tryd.prog glX 52 [(chC 1 3),iv 0] R:=K0_by hmX hcU 3000 Tryd.func52 (p:=R (iv 4)) (by kernel_rfl) h
theorem dir83_21_1 {R:V→Prop} (h:R (iv 5)):K0G Tryd.prog glX 52 [(chC 1 3),iv 1] R:=K0_by hmX hcU 3000 Tryd.func52 (p:=R (iv 5)) (by kernel_rfl) h
theorem dir83_21_2 {R:V→Prop} (h:R (iv 2)):K0G Tryd.prog glX 52 [(chC 1 3),iv 2] R:=K0_by hmX hcU 3000 Tryd.func52 (p:=R (iv 2)) (by kernel_rfl) h
theorem dir83_21_3 {R:V→Prop} (h:R (iv 3)):K0G Tryd.prog glX 52 [(chC 1 3),iv 3] R:=K0_by hmX hcU 3000 Tryd.func52 (p:=R (iv 3)) (by kernel_rfl) h
theorem dir83_21_4 {R:V→Prop} (h:R (iv 1)):K0G Tryd.prog glX 52 [(chC 1 3),iv 4] R:=K0_by hmX hcU 3000 Tryd.func52 (p:=R (iv 1)) (by kernel_rfl) h
theorem dir83_21_5 {R:V→Prop} (h:R (iv 0)):K0G Tryd.prog glX 52 [(chC 1 3),iv 5] R:=K0_by hmX hcU 3000 Tryd.func52 (p:=R (iv 0)) (by kernel_rfl) h
theorem dir83_22_0 {R:V→Prop} (h:R (iv 2)):K0G Tryd.prog glX 52 [(chC 2 3),iv 0] R:=K0_by hmX hcU 3000 Tryd.func52 (p:=R (iv 2)) (by kernel_rfl) h
theorem dir83_22_1 {R:V→Prop} (h:R (iv 3)):K0G Tryd.prog glX 52 [(chC 2 3),iv 1] R:=K0_by hmX hcU 3000 Tryd.func52 (p:=R (iv 3)) (by kernel_rfl) h
theorem dir83_22_2 {R:V→Prop} (h:R (iv 5)):K0G Tryd.prog glX 52 [(chC 2 3),iv 2] R:=K0_by hmX hcU 3000 Tryd.func52 (p:=R (iv 5)) (by kernel_rfl) h
theorem dir83_22_3 {R:V→Prop} (h:R (iv 4)):K0G Tryd.prog glX 52 [(chC 2 3),iv 3] R:=K0_by hmX hcU 3000 Tryd.func52 (p:=R (iv 4)) (by kernel_rfl) h
theorem dir83_22_4 {R:V→Prop} (h:R (iv 1)):K0G Tryd.prog glX 52 [(chC 2 3),iv 4] R:=K0_by hmX hcU 3000 Tryd.func52 (p:=R (iv 1)) (by kernel_rfl) h
theorem dir83_22_5 {R:V→Prop} (h:R (iv 0)):K0G Tryd.prog glX 52 [(chC 2 3),iv 5] R:=K0_by hmX hcU 3000 Tryd.func52 (p:=R (iv 0)) (by kernel_rfl) h
theorem dir83_23_0 {R:V→Prop} (h:R (iv 5)):K0G Tryd.prog glX 52 [(chC 3 3),iv 0] R:=K0_by hmX hcU 3000 Tryd.func52 (p:=R (iv 5)) (by kernel_rfl) h
theorem dir83_23_1 {R:V→Prop} (h:R (iv 4)):K0G Tryd.prog glX 52 [(chC 3 3),iv 1] R:=K0_by hmX hcU 3000 Tryd.func52 (p:=R (iv 4)) (by kernel_rfl) h
theorem dir83_23_2 {R:V→Prop} (h:R (iv 3)):K0G Tryd.prog glX 52 [(chC 3 3),iv 2] R:=K0_by hmX hcU 3000 Tryd.func52 (p:=R (iv 3)) (by kernel_rfl) h
theorem dir83_23_3 {R:V→Prop} (h:R (iv 2)):K0G Tryd.prog glX 52 [(chC 3 3),iv 3] R:=K0_by hmX hcU 3000 Tryd.func52 (p:=R (iv 2)) (by kernel_rfl) h
theorem dir83_23_4 {R:V→Prop} (h:R (iv 1)):K0G Tryd.prog glX 52 [(chC 3 3),iv 4] R:=K0_by hmX hcU 3000 Tryd.func52 (p:=R (iv 1)) (by kernel_rfl) h
theorem dir83_23_5 {R:V→Prop} (h:R (iv 0)):K0G Tryd.prog glX 52 [(chC 3 3),iv 5] R:=K0_by hmX hcU 3000 Tryd.func52 (p:=R (iv 0)) (by kernel_rfl) h
theorem dir83_0 {R:V→Prop} : ∀ d:Nat,d<6→R (iv (pt 0 (d:Int)))→K0G Tryd.prog glX 52 [(chA 0),iv (d:Int)] R
 | 0,_=>fun h=>dir83_0_0 h
 | 1,_=>fun h=>dir83_0_1 h
 | 2,_=>fun h=>dir83_0_2 h
 | 3,_=>fun h=>dir83_0_3 h
 | 4,_=>fun h=>dir83_0_4 h
 | 5,_=>fun h=>dir83_0_5 h
 | d+6,h=>absurd h (by omega)
theorem dir83_1 {R:V→Prop} : ∀ d:Nat,d<6→R (iv (pt 1 (d:Int)))→K0G Tryd.prog glX 52 [(chA 1),iv (d:Int)] R
 | 0,_=>fun h=>dir83_1_0 h
 | 1,_=>fun h=>dir83_1_1 h
 | 2,_=>fun h=>dir83_1_2 h
 | 3,_=>fun h=>dir83_1_3 h
 | 4,_=>fun h=>dir83_1_4 h
 | 5,_=>fun h=>dir83_1_5 h
 | d+6,h=>absurd h (by omega)
theorem dir83_2 {R:V→Prop} : ∀ d:Nat,d<6→R (iv (pt 2 (d:Int)))→K0G Tryd.prog glX 52 [(chA 2),iv (d:Int)] R
 | 0,_=>fun h=>dir83_2_0 h
 | 1,_=>fun h=>dir83_2_1 h
 | 2,_=>fun h=>dir83_2_2 h
 | 3,_=>fun h=>dir83_2_3 h
 | 4,_=>fun h=>dir83_2_4 h
 | 5,_=>fun h=>dir83_2_5 h
 | d+6,h=>absurd h (by omega)
theorem dir83_3 {R:V→Prop} : ∀ d:Nat,d<6→R (iv (pt 3 (d:Int)))→K0G Tryd.prog glX 52 [(chA 3),iv (d:Int)] R
 | 0,_=>fun h=>dir83_3_0 h
 | 1,_=>fun h=>dir83_3_1 h
 | 2,_=>fun h=>dir83_3_2 h
 | 3,_=>fun h=>dir83_3_3 h
 | 4,_=>fun h=>dir83_3_4 h
 | 5,_=>fun h=>dir83_3_5 h
 | d+6,h=>absurd h (by omega)
theorem dir83_4 {R:V→Prop} : ∀ d:Nat,d<6→R (iv (pt 4 (d:Int)))→K0G Tryd.prog glX 52 [(chB 0 1),iv (d:Int)] R
 | 0,_=>fun h=>dir83_4_0 h
 | 1,_=>fun h=>dir83_4_1 h
 | 2,_=>fun h=>dir83_4_2 h
 | 3,_=>fun h=>dir83_4_3 h
 | 4,_=>fun h=>dir83_4_4 h
 | 5,_=>fun h=>dir83_4_5 h
 | d+6,h=>absurd h (by omega)
theorem dir83_5 {R:V→Prop} : ∀ d:Nat,d<6→R (iv (pt 5 (d:Int)))→K0G Tryd.prog glX 52 [(chB 1 1),iv (d:Int)] R
 | 0,_=>fun h=>dir83_5_0 h
 | 1,_=>fun h=>dir83_5_1 h
 | 2,_=>fun h=>dir83_5_2 h
 | 3,_=>fun h=>dir83_5_3 h
 | 4,_=>fun h=>dir83_5_4 h
 | 5,_=>fun h=>dir83_5_5 h
 | d+6,h=>absurd h (by omega)
theorem dir83_6 {R:V→Prop} : ∀ d:Nat,d<6→R (iv (pt 6 (d:Int)))→K0G Tryd.prog glX 52 [(chB 2 1),iv (d:Int)] R
 | 0,_=>fun h=>dir83_6_0 h
 | 1,_=>fun h=>dir83_6_1 h
 | 2,_=>fun h=>dir83_6_2 h
 | 3,_=>fun h=>dir83_6_3 h
 | 4,_=>fun h=>dir83_6_4 h
 | 5,_=>fun h=>dir83_6_5 h
 | d+6,h=>absurd h (by omega)
theorem dir83_7 {R:V→Prop} : ∀ d:Nat,d<6→R (iv (pt 7 (d:Int)))→K0G Tryd.prog glX 52 [(chB 3 1),iv (d:Int)] R
 | 0,_=>fun h=>dir83_7_0 h
 | 1,_=>fun h=>dir83_7_1 h
 | 2,_=>fun h=>dir83_7_2 h
 | 3,_=>fun h=>dir83_7_3 h
 | 4,_=>fun h=>dir83_7_4 h
 | 5,_=>fun h=>dir83_7_5 h
 | d+6,h=>absurd h (by omega)
theorem dir83_8 {R:V→Prop} : ∀ d:Nat,d<6→R (iv (pt 8 (d:Int)))→K0G Tryd.prog glX 52 [(chB 0 2),iv (d:Int)] R
 | 0,_=>fun h=>dir83_8_0 h
 | 1,_=>fun h=>dir83_8_1 h
 | 2,_=>fun h=>dir83_8_2 h
 | 3,_=>fun h=>dir83_8_3 h
 | 4,_=>fun h=>dir83_8_4 h
 | 5,_=>fun h=>dir83_8_5 h
 | d+6,h=>absurd h (by omega)
theorem dir83_9 {R:V→Prop} : ∀ d:Nat,d<6→R (iv (pt 9 (d:Int)))→K0G Tryd.prog glX 52 [(chB 1 2),iv (d:Int)] R
 | 0,_=>fun h=>dir83_9_0 h
 | 1,_=>fun h=>dir83_9_1 h
 | 2,_=>fun h=>dir83_9_2 h
 | 3,_=>fun h=>dir83_9_3 h
 | 4,_=>fun h=>dir83_9_4 h
 | 5,_=>fun h=>dir83_9_5 h
 | d+6,h=>absurd h (by omega)
theorem dir83_10 {R:V→Prop} : ∀ d:Nat,d<6→R (iv (pt 10 (d:Int)))→K0G Tryd.prog glX 52 [(chB 2 2),iv (d:Int)] R
 | 0,_=>fun h=>dir83_10_0 h
 | 1,_=>fun h=>dir83_10_1 h
 | 2,_=>fun h=>dir83_10_2 h
 | 3,_=>fun h=>dir83_10_3 h
 | 4,_=>fun h=>dir83_10_4 h
 | 5,_=>fun h=>dir83_10_5 h
 | d+6,h=>absurd h (by omega)
theorem dir83_11 {R:V→Prop} : ∀ d:Nat,d<6→R (iv (pt 11 (d:Int)))→K0G Tryd.prog glX 52 [(chB 3 2),iv (d:Int)] R
 | 0,_=>fun h=>dir83_11_0 h
 | 1,_=>fun h=>dir83_11_1 h
 | 2,_=>fun h=>dir83_11_2 h
 | 3,_=>fun h=>dir83_11_3 h
 | 4,_=>fun h=>dir83_11_4 h
 | 5,_=>fun h=>dir83_11_5 h
 | d+6,h=>absurd h (by omega)
theorem dir83_12 {R:V→Prop} : ∀ d:Nat,d<6→R (iv (pt 12 (d:Int)))→K0G Tryd.prog glX 52 [(chB 0 3),iv (d:Int)] R
 | 0,_=>fun h=>dir83_12_0 h
 | 1,_=>fun h=>dir83_12_1 h
 | 2,_=>fun h=>dir83_12_2 h
 | 3,_=>fun h=>dir83_12_3 h
 | 4,_=>fun h=>dir83_12_4 h
 | 5,_=>fun h=>dir83_12_5 h
 | d+6,h=>absurd h (by omega)
theorem dir83_13 {R:V→Prop} : ∀ d:Nat,d<6→R (iv (pt 13 (d:Int)))→K0G Tryd.prog glX 52 [(chB 1 3),iv (d:Int)] R
 | 0,_=>fun h=>dir83_13_0 h
 | 1,_=>fun h=>dir83_13_1 h
 | 2,_=>fun h=>dir83_13_2 h
 | 3,_=>fun h=>dir83_13_3 h
 | 4,_=>fun h=>dir83_13_4 h
 | 5,_=>fun h=>dir83_13_5 h
 | d+6,h=>absurd h (by omega)
theorem dir83_14 {R:V→Prop} : ∀ d:Nat,d<6→R (iv (pt 14 (d:Int)))→K0G Tryd.prog glX 52 [(chB 2 3),iv (d:Int)] R
 | 0,_=>fun h=>dir83_14_0 h
 | 1,_=>fun h=>dir83_14_1 h
 | 2,_=>fun h=>dir83_14_2 h
 | 3,_=>fun h=>dir83_14_3 h
 | 4,_=>fun h=>dir83_14_4 h
 | 5,_=>fun h=>dir83_14_5 h
 | d+6,h=>absurd h (by omega)
theorem dir83_15 {R:V→Prop} : ∀ d:Nat,d<6→R (iv (pt 15 (d:Int)))→K0G Tryd.prog glX 52 [(chB 3 3),iv (d:Int)] R
 | 0,_=>fun h=>dir83_15_0 h
 | 1,_=>fun h=>dir83_15_1 h
 | 2,_=>fun h=>dir83_15_2 h
 | 3,_=>fun h=>dir83_15_3 h
 | 4,_=>fun h=>dir83_15_4 h
 | 5,_=>fun h=>dir83_15_5 h
 | d+6,h=>absurd h (by omega)
theorem dir83_16 {R:V→Prop} : ∀ d:Nat,d<6→R (iv (pt 16 (d:Int)))→K0G Tryd.prog glX 52 [(chC 0 1),iv (d:Int)] R
 | 0,_=>fun h=>dir83_16_0 h
 | 1,_=>fun h=>dir83_16_1 h
 | 2,_=>fun h=>dir83_16_2 h
 | 3,_=>fun h=>dir83_16_3 h
 | 4,_=>fun h=>dir83_16_4 h
 | 5,_=>fun h=>dir83_16_5 h
 | d+6,h=>absurd h (by omega)
theorem dir83_17 {R:V→Prop} : ∀ d:Nat,d<6→R (iv (pt 17 (d:Int)))→K0G Tryd.prog glX 52 [(chC 1 1),iv (d:Int)] R
 | 0,_=>fun h=>dir83_17_0 h
 | 1,_=>fun h=>dir83_17_1 h
 | 2,_=>fun h=>dir83_17_2 h
 | 3,_=>fun h=>dir83_17_3 h
 | 4,_=>fun h=>dir83_17_4 h
 | 5,_=>fun h=>dir83_17_5 h
 | d+6,h=>absurd h (by omega)
theorem dir83_18 {R:V→Prop} : ∀ d:Nat,d<6→R (iv (pt 18 (d:Int)))→K0G Tryd.prog glX 52 [(chC 2 1),iv (d:Int)] R
 | 0,_=>fun h=>dir83_18_0 h
 | 1,_=>fun h=>dir83_18_1 h
 | 2,_=>fun h=>dir83_18_2 h
 | 3,_=>fun h=>dir83_18_3 h
 | 4,_=>fun h=>dir83_18_4 h
 | 5,_=>fun h=>dir83_18_5 h
 | d+6,h=>absurd h (by omega)
theorem dir83_19 {R:V→Prop} : ∀ d:Nat,d<6→R (iv (pt 19 (d:Int)))→K0G Tryd.prog glX 52 [(chC 3 1),iv (d:Int)] R
 | 0,_=>fun h=>dir83_19_0 h
 | 1,_=>fun h=>dir83_19_1 h
 | 2,_=>fun h=>dir83_19_2 h
 | 3,_=>fun h=>dir83_19_3 h
 | 4,_=>fun h=>dir83_19_4 h
 | 5,_=>fun h=>dir83_19_5 h
 | d+6,h=>absurd h (by omega)
theorem dir83_20 {R:V→Prop} : ∀ d:Nat,d<6→R (iv (pt 20 (d:Int)))→K0G Tryd.prog glX 52 [(chC 0 3),iv (d:Int)] R
 | 0,_=>fun h=>dir83_20_0 h
 | 1,_=>fun h=>dir83_20_1 h
 | 2,_=>fun h=>dir83_20_2 h
 | 3,_=>fun h=>dir83_20_3 h
 | 4,_=>fun h=>dir83_20_4 h
 | 5,_=>fun h=>dir83_20_5 h
 | d+6,h=>absurd h (by omega)
theorem dir83_21 {R:V→Prop} : ∀ d:Nat,d<6→R (iv (pt 21 (d:Int)))→K0G Tryd.prog glX 52 [(chC 1 3),iv (d:Int)] R
 | 0,_=>fun h=>dir83_21_0 h
 | 1,_=>fun h=>dir83_21_1 h
 | 2,_=>fun h=>dir83_21_2 h
 | 3,_=>fun h=>dir83_21_3 h
 | 4,_=>fun h=>dir83_21_4 h
 | 5,_=>fun h=>dir83_21_5 h
 | d+6,h=>absurd h (by omega)
theorem dir83_22 {R:V→Prop} : ∀ d:Nat,d<6→R (iv (pt 22 (d:Int)))→K0G Tryd.prog glX 52 [(chC 2 3),iv (d:Int)] R
 | 0,_=>fun h=>dir83_22_0 h
 | 1,_=>fun h=>dir83_22_1 h
 | 2,_=>fun h=>dir83_22_2 h
 | 3,_=>fun h=>dir83_22_3 h
 | 4,_=>fun h=>dir83_22_4 h
 | 5,_=>fun h=>dir83_22_5 h
 | d+6,h=>absurd h (by omega)
theorem dir83_23 {R:V→Prop} : ∀ d:Nat,d<6→R (iv (pt 23 (d:Int)))→K0G Tryd.prog glX 52 [(chC 3 3),iv (d:Int)] R
 | 0,_=>fun h=>dir83_23_0 h
 | 1,_=>fun h=>dir83_23_1 h
 | 2,_=>fun h=>dir83_23_2 h
 | 3,_=>fun h=>dir83_23_3 h
 | 4,_=>fun h=>dir83_23_4 h
 | 5,_=>fun h=>dir83_23_5 h
 | d+6,h=>absurd h (by omega)
theorem dir83 {R:V→Prop} {d:Nat} (hd:d<6) : ∀ n:Nat,n<24→R (iv (pt n (d:Int)))→K0G Tryd.prog glX 52 [ch n,iv (d:Int)] R
 | 0,_=>fun h=>dir83_0 d hd h
 | 1,_=>fun h=>dir83_1 d hd h
 | 2,_=>fun h=>dir83_2 d hd h
 | 3,_=>fun h=>dir83_3 d hd h
 | 4,_=>fun h=>dir83_4 d hd h
 | 5,_=>fun h=>dir83_5 d hd h
 | 6,_=>fun h=>dir83_6 d hd h
 | 7,_=>fun h=>dir83_7 d hd h
 | 8,_=>fun h=>dir83_8 d hd h
 | 9,_=>fun h=>dir83_9 d hd h
 | 10,_=>fun h=>dir83_10 d hd h
 | 11,_=>fun h=>dir83_11 d hd h
 | 12,_=>fun h=>dir83_12 d hd h
 | 13,_=>fun h=>dir83_13 d hd h
 | 14,_=>fun h=>dir83_14 d hd h
 | 15,_=>fun h=>dir83_15 d hd h
 | 16,_=>fun h=>dir83_16 d hd h
 | 17,_=>fun h=>dir83_17 d hd h
 | 18,_=>fun h=>dir83_18 d hd h
 | 19,_=>fun h=>dir83_19 d hd h
 | 20,_=>fun h=>dir83_20 d hd h
 | 21,_=>fun h=>dir83_21 d hd h
 | 22,_=>fun h=>dir83_22 d hd h
 | 23,_=>fun h=>dir83_23 d hd h
 | n+24,h=>absurd h (by omega)
end Go.Proofs.YtbionhgjgcpogaaDoor
namespace Go.Proofs.YtbionhgjgcpogaaDoor.Clean
open Go.Proofs Go.Shelf Go.RowKit Go.Lib Go.Sort
set_option linter.unusedVariables false
set_option linter.unusedSimpArgs false
set_option maxRecDepth 10000
def rowV (vs:List Value):List V:=vs.map V.raw
section
variable {ν:Nu} {F:Nat→Prop} {h:Hp} {w w' : World}
theorem heap_growA {os:Array Obj} (k:HeapOK ν F h w) (hw:w' = grow w os):HeapOK ν F h w' ∧ Evo ν F w ν F w' := by
 have hpre : ∀ r,r<w.heap.size→w'.heap[r]? = w.heap[r]? := fun r hlt=>by
  subst hw; show (w.heap++os)[r]? = _; rw [Array.getElem?_append_left hlt]
 have hsize:w.heap.size≤w'.heap.size:=by subst hw; show _≤(w.heap++os).size; simp
 have e:Evo ν F w ν F w' := ⟨by rw [hw]; rfl,by rw [hw]; rfl,by rw [hw]; rfl,hsize,fun r hlt _=>hpre r hlt,fun _ h=>h,fun _ h => .inl h,fun _ h => .inl h,fun _ _ _ h=>h,Nat.le_refl _,fun _=>Nat.le_refl _,fun _ _ h=>h,
  fun b r s n hb _ c e fr hc=>⟨c,by rw [hpre r (lt_of_some hc)]; exact hc,rfl⟩,by subst hw; exact Nat.le_refl _⟩
 refine ⟨⟨fun b r s n hb=>?_,k.dom,k.inj,fun r hr=>⟨Nat.lt_of_lt_of_le (k.frz r hr).1 hsize,(k.frz r hr).2⟩,k.nxt,k.cnt⟩,e⟩
 obtain ⟨o,g1,g2⟩:=k.blk b r s n hb
 exact ⟨o,g1,obl_evo k e (hpre r (k.at_lt hb)) g2⟩
theorem world_grow {W w' : World} (h1:w'.os=W.os) (h2:w'.tape=W.tape) (h3:w'.output=W.output) (h4:W.drawn≤w'.drawn) (h5:W.heap.size≤w'.heap.size) (h6 : ∀ r,r<W.heap.size→w'.heap[r]? = W.heap[r]?) : ∃ q os', w' = grow (W.drewN q) os' := by
 refine ⟨w'.drawn - W.drawn,w'.heap.extract W.heap.size w'.heap.size,?_⟩
 obtain ⟨heap,tape,drawn,os,out⟩:=w'
 simp only at h1 h2 h3 h4 h5 h6
 have hh:heap=W.heap++heap.extract W.heap.size heap.size:=by
  refine Array.ext_getElem? fun i=>?_
  by_cases hi:i<W.heap.size
  ·rw [Array.getElem?_append_left hi,h6 i hi]
  ·rw [Array.getElem?_append_right (by omega),Array.getElem?_extract]
   split
   ·rw [show W.heap.size+(i - W.heap.size)=i from by omega]
   ·rw [Array.getElem?_eq_none (by omega)]
 show World.mk heap tape drawn os out=World.mk (W.heap++heap.extract W.heap.size heap.size) W.tape (W.drawn+(drawn - W.drawn)) W.os W.output
 rw [← hh,← h1,← h2,← h3,show W.drawn+(drawn - W.drawn)=drawn from by omega]
variable {α:Type} [Inhabited α]
theorem flat_get {enc:α→List Value} {k:Nat} (hk : ∀ x,(enc x).length=k) (l:List α) {i j:Nat} {x:α} (hx:l[i]? = some x) (hj:j<k):(flatK enc k l.toArray)[i * k+j]! = (enc x)[j]! ∧ i * k+j<l.length * k:=by
 have hi:=(List.getElem?_eq_some_iff.1 hx).1
 have lt:i * k+j<l.length * k:=by
  have:=Nat.mul_le_mul_right k (show i+1≤l.length from hi); rw [Nat.add_mul,Nat.one_mul] at this; omega
 refine ⟨?_,lt⟩
 rw [get_flatK _ _ _ _ (by simpa using lt)]
 have e1:(i * k+j) / k=i:=(blk_iff k i _ (by omega)).1 ⟨by omega,by omega⟩
 have e2:(i * k+j) % k=j:=by rw [Nat.mod_eq_sub_div_mul,e1]; omega
 rw [e1,e2]
 have:l.toArray[i]! = x:=by
  rw [getElem!_pos _ i (by simpa using hi)]
  have:=(List.getElem?_eq_some_iff.1 hx).2
  simpa using this
 rw [this]
theorem holds_of {enc:α→List Value} {k:Nat} (hk : ∀ x,(enc x).length=k) {l:List α} {r:Nat} {c:Array Value} {el:TypeId} {p:Bool} (hc:w.heap[r]? = some (.cells c el (0,0))) (hr:rowsC (repO F w ν p) c k (l.map fun x=>rowV (enc x)) 0):HoldsK enc k w r 0 l.toArray:=by
  intro t ht
  rw [size_flatK] at ht
  have ht:t<l.length * k:=by simpa using ht
  have k0 : 0 < k := by rcases Nat.eq_zero_or_pos k with h | h
                        · subst h; simp at ht
                        · exact h
  have hi:t / k<l.length:=Nat.div_lt_of_lt_mul (by rw [Nat.mul_comm]; exact ht)
  have hj:t % k<k:=Nat.mod_lt _ k0
  have et:t / k * k+t % k=t:=Nat.div_add_mod' t k
  obtain ⟨x,hx⟩ : ∃ x,l[t / k]? = some x:=⟨_,List.getElem?_eq_getElem hi⟩
  have hf:=(flat_get hk l hx hj).1
  rw [et] at hf
  obtain ⟨_,q⟩:=rowsC_iff.1 hr (t / k) (rowV (enc x)) (by rw [List.getElem?_map,hx]; rfl)
  have hje:t % k<(enc x).length:=by rw [hk]; exact hj
  obtain ⟨y,y1,_,y2⟩:=q (t % k) (V.raw (enc x)[t % k]!) (by rw [rowV,List.getElem?_map,List.getElem?_eq_getElem hje]; simp [hje])
  have hy:y=(enc x)[t % k]! := by
    unfold repO at y2
    split at y2 <;> simpa [ri,rep] using y2
  rw [Nat.zero_add,et] at y1
  constructor
  · show w.cell? ⟨r,0+t,none⟩=some (flatK enc k l.toArray)[t]!
    rw [hf,← hy,Nat.zero_add]
    simp [World.cell?,hc,y1]
  · rw [Nat.zero_add]
    simp [World.frozen?,hc]
theorem sort_world {enc:α→List Value} {k:Nat} (hk : ∀ x,(enc x).length=k) (h1 : ∀ x, ∀ v∈enc x,v.oneCell' = true) {l:List α} {b r n' : Nat} {p:Bool} (hh:HeapOK ν F h w) (hget:h.get (.p b)=some (.rows k p (l.map fun x=>rowV (enc x)))) (hat:ν.at_ (.p b)=some (r,k,n')) (m:Nat) (dk:Array α) (os:Array Obj) (hs:dk.size=l.length) :
  HeapOK ν F (h.put (.p b) (.rows k p (dk.toList.map fun x=>rowV (enc x)))) (sortWorldK enc k w r 0 m dk os)∧Evo ν F w ν F (sortWorldK enc k w r 0 m dk os) ∧ ∀ q,q≠r→q<w.heap.size→(sortWorldK enc k w r 0 m dk os).heap[q]? = w.heap[q]? := by
 obtain ⟨_,g2,c,e,hc,hn,hr⟩:=hh.blkR hget hat
 obtain ⟨k1,e1⟩:=heap_same (w' := Sort.ahead w m) hh rfl rfl rfl rfl (Nat.le_add_right _ _)
 have hsz:(flatK enc k dk).size=l.length * k:=by rw [size_flatK,hs]
 have g2:l.length=n' := by simpa using g2
 have hc' : (putRowK enc k (Sort.ahead w m) r 0 dk).heap[r]? = some (.cells (putCells id 0 (flatK enc k dk) c) e (0,0)):=by
  show (w.heap.modify r (onCells (putCells id 0 (flatK enc k dk))))[r]? = _
  rw [Array.getElem?_modify,if_pos rfl,hc]; rfl
 have hoth : ∀ q,q≠r→(putRowK enc k (Sort.ahead w m) r 0 dk).heap[q]? = w.heap[q]? := fun q hq=>by
  show (w.heap.modify r (onCells (putCells id 0 (flatK enc k dk))))[q]? = _
  rw [Array.getElem?_modify,if_neg (Ne.symm hq)]
 have hrow:rowsC (repO F (Sort.ahead w m) ν p) (putCells id 0 (flatK enc k dk) c) k (dk.toList.map fun x=>rowV (enc x)) 0:=by
  refine rowsC_iff.2 fun i row hrow=>?_
  rw [List.getElem?_map,Option.map_eq_some_iff] at hrow
  obtain ⟨x,hx,rfl⟩:=hrow
  refine ⟨by rw [rowV,List.length_map,hk],fun j v hj=>?_⟩
  rw [rowV,List.getElem?_map,Option.map_eq_some_iff] at hj
  obtain ⟨y,hy,rfl⟩:=hj
  have hjk:j<k:=by rw [← hk x]; exact (List.getElem?_eq_some_iff.1 hy).1
  obtain ⟨f1,f2⟩:=flat_get hk dk.toList hx hjk
  rw [Array.toArray_toList] at f1
  rw [Array.length_toList,hs] at f2
  have hy' : (enc x)[j]! = y:=by
   rw [getElem!_pos _ j (by rw [hk]; exact hjk)]
   exact (List.getElem?_eq_some_iff.1 hy).2
  refine ⟨y,?_,h1 x y (List.mem_of_getElem? hy),?_⟩
  ·rw [Nat.zero_add]
   simp only [putCells,Array.getElem?_mapIdx]
   rw [Array.getElem?_eq_getElem (show i * k+j<c.size by rw [← g2] at hn; omega)]
   simp only [Option.map_some,Nat.zero_le,true_and,Nat.zero_add,hsz,f2,if_true,Nat.sub_zero,id,f1,hy']
  ·unfold repO
   split <;> simp [ri,rep]
 have hcp:(putCells id 0 (flatK enc k dk) c).size=c.size:=by simp [putCells]
 obtain ⟨k2,e2⟩:=heap_set (w' := putRowK enc k (Sort.ahead w m) r 0 dk) (es:=l.map fun x=>rowV (enc x)) (es' := dk.toList.map fun x=>rowV (enc x)) (p:=p) k1 hget rfl (by rw [List.length_map,g2]; exact hat) (by simp [hs]) hc hc' hcp hoth (by show (w.heap.modify _ _).size=_; rw [Array.size_modify]; rfl) rfl rfl rfl (by rw [List.length_map,g2]; exact hn) hrow (Nat.le_refl _)
 obtain ⟨k3,e3⟩:=heap_growA (w' := sortWorldK enc k w r 0 m dk os) k2 rfl
 refine ⟨k3,(e1.trans e2).trans e3,fun q hq hlt=>?_⟩
 show ((putRowK enc k (Sort.ahead w m) r 0 dk).heap++os)[q]? = _
 rw [Array.getElem?_append_left (by show q<(w.heap.modify _ _).size; rw [Array.size_modify]; exact hlt),hoth q hq]
end
section
variable {ν:Nu} {F:Nat→Prop} {h:Hp} {w w' : World} {α:Type} [Inhabited α]
theorem repL_raws {vs:List Value}:repL F w ν (rowV vs) vs:=by
 induction vs with
 | nil=>simp [rowV,repL]
 | cons a t ih=>simp only [rowV,List.map_cons,repL] at ih ⊢; exact ⟨a,t,rfl,by simp [rep],ih⟩
theorem perm_of {d d' : Array α} (h:PermIn 0 d.size d d'):d'.toList.Perm d.toList:=by
 obtain ⟨h1,_,h3⟩:=h
 have e1:d'.extract 0 d.size=d' := by rw [← h1]; simp
 have e2:d.extract 0 d.size=d:=by simp
 rw [e1,e2] at h3
 exact h3
theorem K_sort {P:Program} {G:Nat→Option (List V)} {ρ:Ren} (L:SlLaysF0.n6 P ρ) {k:Nat} (aE : ∀ w,(isAgg (ρ.t 24)).run P w = .ok true w) (zE : ∀ w,(Go.sizeOf (ρ.t 24)).run P w = .ok k w) {enc:α→List Value} (hk : ∀ x,(enc x).length=k) (h1 : ∀ x, ∀ v∈enc x,v.oneCell' = true) {cf:α→α→Int} (hO:SWO (ltOf cf))
  {g:FuncId} {caps:List V} {h:Hp} {b:Nat} {p:Bool} {l:List α} (hl0:l≠[]) (hlt:l.length<4611686018427387904) (hget:h.get (.p b)=some (.rows k p (l.map fun x=>rowV (enc x))))
  (eg : ∀ args w,(callFunc g args).run P w = .ok (.enter g args) w)
  (hcmp : ∀ l' : List α,l'.length=l.length → ∀ x y,K P G g ([.agg (rowV (enc x)),.agg (rowV (enc y))]++caps) (h.put (.p b) (.rows k p (l'.map fun x=>rowV (enc x)))) (fun b' => !b'.low h.nxt) fun v _=>v = .raw (.int .i64 (cf x y))) (hfs:h.fs=[]) :
  K P G (ρ.f 6) [.sl (.p b) 0 l.length,.fn (.func g) [] caps] h (fun b' => (Id.p b).beq b') fun v h' => v = .tup [] ∧ ∃ l' : List α,l'.Perm l∧(∀ (i j:Nat) (x y:α),i<j→l'[i]? = some x→l'[j]? = some y → ¬ cf y x<0)∧h' = h.put (.p b) (.rows k p (l'.map fun x=>rowV (enc x))):=by
 intro ν F w xs hh hG hl
 simp only [repL,rep] at hl
 obtain ⟨x1,_,rfl,hx1,x2,_,rfl,⟨fa,cs,rfl,has,hcs⟩,rfl⟩:=hl
 obtain ⟨⟨r,k', n'⟩,hat⟩ : ∃ x,ν.at_ (.p b)=some x:=by
  rcases hh.dom _ _ hget with h | ⟨_,s,p', h⟩
  ·exact h
  ·simp at h
   exact (hl0 h.2.2).elim
 obtain ⟨rfl,g2,c,e,hc,hn,hr⟩:=hh.blkR hget hat
 have g2:l.length=n' := by simpa using g2
 obtain ⟨-, cap,hcap,⟨o,ho,rfl⟩, -⟩:=hx1.2 _ _ _ hat
 have ho:o=0:=by
  rcases ho with ho | ho
  ·simpa using ho
  ·exact absurd rfl ho.2
 subst ho
 have has:fa = #[]:=by
  have:fa.toList=[]:=by simpa [repL] using has
  exact Array.toList_eq_nil_iff.1 this
 subst has
 have hblk:r<w.heap.size:=hh.at_lt hat
 have key:CmpLays P g cs enc k cf r 0 l.toArray.size w:=by
  intro m os dk hs x y
  have hs:dk.size=l.length:=by simpa using hs
  obtain ⟨q1,q2,_⟩:=sort_world (enc:=enc) hk h1 hh hget hat m dk os hs
  have hG' : GlobOK G F (sortWorldK enc k w r 0 m dk os):=fun g cs hg=>HeapOK.riEvo hh q2 (hG g cs hg)
  have hargs:repL F (sortWorldK enc k w r 0 m dk os) ν ([.agg (rowV (enc x)),.agg (rowV (enc y))]++caps) ([.agg (enc x).toArray,.agg (enc y).toArray]++cs.toList):=by
   simp only [List.cons_append,List.nil_append,repL,rep]
   exact ⟨_,_,rfl,⟨_,rfl,by simpa using repL_raws⟩,_,_,rfl,⟨_,rfl,by simpa using repL_raws⟩,repL_evo hh q2 _ _ hcs⟩
  have:=hcmp dk.toList (by simpa using hs) x y ν F _ _ q1 hG' hargs
  have harr:([.agg (enc x).toArray,.agg (enc y).toArray]++cs.toList:List Value).toArray = #[.agg (enc x).toArray,.agg (enc y).toArray]++cs:=by simp
  rw [harr] at this
  refine this.mono fun e' w' ⟨v,u,ν', F', h', z1,z2,z3,z4,z5,z6⟩=>?_
  subst z1; subst z2
  have hv:v = .int .i64 (cf x y):=by simpa [rep] using z4
  refine ⟨by rw [hv],world_grow z5.os z5.tape z5.output z5.drawn z5.size fun q hq=>?_⟩
  by_cases ho:ν.own q
  ·obtain ⟨b', s', n'', hb'⟩:=ho
   refine (z6 b' _ hb' ?_).1
   have hlt:=ν.lt _ _ hb'
   cases b' with
   | p a =>
    have:a<h.nxt:=by have h2:a<ν.nxt:=hlt; rw [hh.nxt] at h2; exact h2
    show (!Nat.blt a h.nxt)=false
    rw [show Nat.blt a h.nxt=true from Nat.ble_eq_true_of_le this]; rfl
   | m B j =>
    have h2:j<ν.cnt B:=hlt
    rw [hh.cnt B,hfs] at h2
    exact absurd h2 (Nat.not_lt_zero _)
  ·exact z5.old q hq ho
 have hH:HoldsK enc k w r 0 l.toArray:=holds_of hk hc hr
 have main:=AnyQ.slices_SortFunc L k aE zE enc hk h1 cf hO g cs r 0 cap l.toArray w eg key hH hblk (by simpa using hlt)
 refine main.mono fun e' w' ⟨he,d', n,os,hp,hs,hw⟩=>?_
 subst he; subst hw
 have hsz:d'.size=l.length:=by simpa using hp.1
 obtain ⟨q1,q2,q3⟩:=sort_world (enc:=enc) hk h1 hh hget hat n d' os hsz
 refine ⟨.tuple #[],.tup [],ν,F,_,rfl,⟨rfl,d'.toList,by simpa using perm_of hp,fun i j x y hij hx hy=>?_,rfl⟩,q1,by simp [rep,repL],q2,fun b' y hy hb' => ⟨?_,hy⟩⟩
 ·have hj:j<l.length:=by rw [← hsz]; simpa using (List.getElem?_eq_some_iff.1 hy).1
  have:=hs i j (Nat.zero_le _) hij (by simpa using hj)
  have e1:d'[i]! = x:=by
   rw [getElem!_pos d' i (by omega)]
   have:=(List.getElem?_eq_some_iff.1 hx).2
   simpa using this
  have e2:d'[j]! = y:=by
   rw [getElem!_pos d' j (by omega)]
   have:=(List.getElem?_eq_some_iff.1 hy).2
   simpa using this
  rw [e1,e2] at this
  unfold ltOf at this
  exact of_decide_eq_false this
 ·obtain ⟨r', s', n''⟩:=y
  refine q3 r' (fun he=>?_) (hh.at_lt hy)
  subst he
  have:=hh.inj b' _ _ _ _ _ _ hy hat
  subst this
  simp at hb'
end
end Go.Proofs.YtbionhgjgcpogaaDoor.Clean
namespace Go.Proofs.YtbionhgjgcpogaaDoor
open Go Go.Proofs.YtbionhgjgcpogaaDoor.Clean
set_option linter.unusedVariables false
set_option maxRecDepth 100000
def rtP (c:V) (f:FuncId) (args:List V) (us:Us) (v:V) (k:V→Prop):Prop:=bif inN [40] f then sameV v c (k c) else onTup v fun vs=>onNil vs (k (.tup []))
def poP (f:FuncId) (args:List V) (h:Hp) (us:Us):Hp:=bif inN [40] f then h else h.put (.p 0) (.rows (bif inN [50] f then 3 else 5) true (us.getD 0 []))
def moP (f:FuncId):Nat:=bif inN [40,50] f then 3 else 0
def kpP:FuncId→Nat→Option (List Tmp):=slotsOf [(32,0,[3,5,6,7,8,26,27,28]),(32,2,[5,6,7,8,47,48,49])]
noncomputable def cfP (c:V):Cfg:={ cfgG Tryd.prog glX moP poP (rtP c) (inN []) kpP with clean:=fun g=>true }
def chAr (k:Int):List V:=[fZ,iv k,fN,iv 0,fN,iv 0]
def chBr (k s:Int):List V:=[fZ,iv k,fX,iv s,fN,iv 0]
def chCr (k j:Int):List V:=[fZ,iv k,fX,iv 1,fZ,iv j]
noncomputable def sh95a (cr:List V) (q:Kd) (by_:Cl) (L:List Cl) (K:List Kn) (i:Nat):St:=⟨mkT [(3,V.ptr (Id.p 0) 0 0),(5,V.ptr (Id.p 1) 0 0),(6,V.ptr (Id.p 2) 0 0),(7,V.ptr (Id.p 3) 0 0),(8,V.ptr (Id.p 4) 0 0),(26,V.lst 3 (cll q.1)),(27,iv ((cll q.1).length:Int)),(28,iv (i:Int))],⟨[(0,O.rows 3 false [kdr q]),(1,O.rows 3 false [clr by_]),(2,O.rows 2 false [[nilS,nilS]]),(3,O.rows 6 false [cr]),(4,O.rows 2 false [[V.sl (Id.p 5) 0 (cll q.1).length,V.sl (Id.p 6) 0 (knl q.2.1).length]]),(5,O.rows 3 true (cll L)),(6,O.rows 5 true (knl K))],7,[]⟩⟩
noncomputable def sh95b (cr:List V) (q:Kd) (by_:Cl) (L:List Cl) (K:List Kn) (i:Nat):St:=⟨mkT [(5,V.ptr (Id.p 0) 0 0),(6,V.ptr (Id.p 1) 0 0),(7,V.ptr (Id.p 2) 0 0),(8,V.ptr (Id.p 3) 0 0),(47,V.lst 5 (knl q.2.1)),(48,iv ((knl q.2.1).length:Int)),(49,iv (i:Int))],⟨[(0,O.rows 3 false [clr by_]),(1,O.rows 2 false [[nilS,nilS]]),(2,O.rows 6 false [cr]),(3,O.rows 2 false [[V.sl (Id.p 4) 0 (cll q.1).length,V.sl (Id.p 5) 0 (knl q.2.1).length]]),(4,O.rows 3 true (cll L)),(5,O.rows 5 true (knl K))],6,[]⟩⟩
noncomputable def cfS:Cfg:=cfgM Tryd.prog glX moZ tyZ (fun _=>true) (fun _ _=>none)
open Go Go.Shelf
def LSc_ren:Go.Shelf.Ren:=⟨fun | 6=>50 | 15=>64 | 14=>63 | 28=>78 | 29=>79 | 20=>70 | 21=>71 | 22=>72 | 23=>73 | 24=>74 | 25=>75 | 26=>76 | 27=>77 | 46=>86 | 47=>87 | 48=>88 | 49=>89 | 50=>90 | 57=>93 | n=>n,fun | 22=>52 | 24=>27 | 25=>94 | 3=>3 | 39=>109 | 0=>0 | 53=>123 | 55=>125 | 4=>4 | 46=>116 | 45=>115 | 50=>120 | 5=>5 | 9=>9 | 66=>129 | 70=>133 | 76=>137 | 77=>138 | n=>n,fun | n=>n⟩
theorem LSc:Go.Proofs.SlLaysF0.n6 Tryd.prog LSc_ren:={
 mixed:=by kernel_rfl
 f6:=⟨Tryd.f50.name,by decide,Tryd.func50.trans (congrArg some (by kernel_rfl))⟩
 f14:=⟨Tryd.f63.name,by decide,Tryd.func63.trans (congrArg some (by kernel_rfl))⟩
 f15:=Tryd.func64.trans (congrArg some (by kernel_rfl))
 f20:=⟨Tryd.f70.name,by decide,Tryd.func70.trans (congrArg some (by kernel_rfl))⟩
 f21:=⟨Tryd.f71.name,by decide,Tryd.func71.trans (congrArg some (by kernel_rfl))⟩
 f22:=⟨Tryd.f72.name,by decide,Tryd.func72.trans (congrArg some (by kernel_rfl))⟩
 f23:=⟨Tryd.f73.name,by decide,Tryd.func73.trans (congrArg some (by kernel_rfl))⟩
 f24:=⟨Tryd.f74.name,by decide,Tryd.func74.trans (congrArg some (by kernel_rfl))⟩
 f25:=⟨Tryd.f75.name,by decide,Tryd.func75.trans (congrArg some (by kernel_rfl))⟩
 f26:=⟨Tryd.f76.name,by decide,Tryd.func76.trans (congrArg some (by kernel_rfl))⟩
 f27:=⟨Tryd.f77.name,by decide,Tryd.func77.trans (congrArg some (by kernel_rfl))⟩
 f28:=Tryd.func78.trans (congrArg some (by kernel_rfl))
 f29:=Tryd.func79.trans (congrArg some (by kernel_rfl))
 f46:=⟨Tryd.f86.name,by decide,Tryd.func86.trans (congrArg some (by kernel_rfl))⟩
 f47:=Tryd.func87.trans (congrArg some (by kernel_rfl))
 f48:=Tryd.func88.trans (congrArg some (by kernel_rfl))
 f49:=⟨Tryd.f89.name,by decide,Tryd.func89.trans (congrArg some (by kernel_rfl))⟩
 f50:=⟨Tryd.f90.name,by decide,Tryd.func90.trans (congrArg some (by kernel_rfl))⟩
 f57:=⟨Tryd.f93.name,by decide,Tryd.func93.trans (congrArg some (by kernel_rfl))⟩
 t0:=Tryd.underlying0
 a0:=Tryd.isAgg0
 z0:=Tryd.sizeOf0
 v0:=Tryd.zeroValue0
 t3:=Tryd.underlying3
 a3:=Tryd.isAgg3
 z3:=Tryd.sizeOf3
 v3:=Tryd.zeroValue3
 t4:=Tryd.underlying4
 a4:=Tryd.isAgg4
 z4:=Tryd.sizeOf4
 v4:=Tryd.zeroValue4
 t5:=Tryd.underlying5
 a5:=Tryd.isAgg5
 z5:=Tryd.sizeOf5
 v5:=Tryd.zeroValue5
 t9:=Tryd.underlying9
 a9:=Tryd.isAgg9
 z9:=Tryd.sizeOf9
 v9:=Tryd.zeroValue9
 t22:=Tryd.underlying52
 a22:=Tryd.isAgg52
 z22:=Tryd.sizeOf52
 v22:=Tryd.zeroValue52
 t25:=Tryd.underlying94
 a25:=Tryd.isAgg94
 z25:=Tryd.sizeOf94
 v25:=Tryd.zeroValue94
 t39:=Tryd.underlying109
 a39:=Tryd.isAgg109
 z39:=Tryd.sizeOf109
 v39:=Tryd.zeroValue109
 t45:=Tryd.underlying115
 a45:=Tryd.isAgg115
 z45:=Tryd.sizeOf115
 v45:=Tryd.zeroValue115
 t46:=Tryd.underlying116
 a46:=Tryd.isAgg116
 z46:=Tryd.sizeOf116
 v46:=Tryd.zeroValue116
 t50:=Tryd.underlying120
 a50:=Tryd.isAgg120
 z50:=Tryd.sizeOf120
 v50:=Tryd.zeroValue120
 t53:=Tryd.underlying123
 a53:=Tryd.isAgg123
 z53:=Tryd.sizeOf123
 v53:=Tryd.zeroValue123
 t55:=Tryd.underlying125
 a55:=Tryd.isAgg125
 z55:=Tryd.sizeOf125
 v55:=Tryd.zeroValue125
 t66:=Tryd.underlying129
 a66:=Tryd.isAgg129
 z66:=Tryd.sizeOf129
 v66:=Tryd.zeroValue129
 t70:=Tryd.underlying133
 a70:=Tryd.isAgg133
 z70:=Tryd.sizeOf133
 v70:=Tryd.zeroValue133
 t76:=Tryd.underlying137
 a76:=Tryd.isAgg137
 z76:=Tryd.sizeOf137
 v76:=Tryd.zeroValue137
 t77:=Tryd.underlying138
 a77:=Tryd.isAgg138
 z77:=Tryd.sizeOf138
 v77:=Tryd.zeroValue138 }
end Go.Proofs.YtbionhgjgcpogaaDoor
