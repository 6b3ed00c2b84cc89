/- A part of the proof. -/
import Derived.Test.YtbionhgjgcpogaaGreatDoorProg
import Derived.Shelf.SlLaysF0
import Derived.Shelf.SlGeneric
import Derived.Test.YtbionhgjgcpogaaGreatDoorXT6G10
namespace Go.Proofs.YtbionhgjgcpogaaGreatDoor
open Go Go.Proofs.YtbionhgjgcpogaaGreatDoor.Clean
set_option linter.unusedVariables false
set_option linter.unusedSimpArgs false
set_option maxRecDepth 10000
theorem hcT:cfT.ok Tryz.prog:=cfgM_ok
theorem hcU:cfU.ok Tryz.prog:=cfgM_ok
def qz (c:Cl):Cl:=(-c.2.1,c.1,c.2.2)
def qx (c:Cl):Cl:=(c.1, -c.2.2,c.2.1)
def itr (f:Cl→Cl):Nat→Cl→Cl
 | 0,c=>c
 | n+1,c=>itr f n (f c)
def tn (n:Nat) (c:Cl):Cl:=if n / 4<4 then itr qx (n / 4) (itr qz (n % 4) c) else itr qz (if n / 4=4 then 1 else 3) (qx (itr qz (n % 4) c))
theorem wn {t:Int} (h : -3000≤t) (h' : t≤3000):IntKind.i64.wrap (0 - t) = -t:=by rw [wr (by omega) (by omega)]; omega
theorem wn6 {t:Int} (h : -3000≤t) (h' : t≤3000):IntKind.i64.wrap (0 - t) = -t∧IntKind.i64.wrap (0 - -t) = - -t∧IntKind.i64.wrap (0 - - -t) = - - -t∧IntKind.i64.wrap (0 - - - -t) = - - - -t∧IntKind.i64.wrap (0 - - - - -t) = - - - - -t :=
 ⟨wn h h', wn (by omega) (by omega),wn (by omega) (by omega),wn (by omega) (by omega),wn (by omega) (by omega)⟩
theorem cell85_0 {c:Cl} {R:V→Prop} (hb:Bd 3000 c) (h:R (.agg (clr (tn 0 c)))):K0G Tryz.prog glX 85 [(chA 0),.agg (clr c)] R:=by
 refine K0_by hmX hcT 3000 Tryz.func85 (p:=R (V.agg [iv c.1,iv c.2.1,iv c.2.2])) (by kernel_rfl) ?_
 unfold Bd Nr at hb
 obtain ⟨x1,x2,x3,x4,x5⟩:=wn6 (t:=c.1) (by omega) (by omega)
 obtain ⟨y1,y2,y3,y4,y5⟩:=wn6 (t:=c.2.1) (by omega) (by omega)
 obtain ⟨z1,z2,z3,z4,z5⟩:=wn6 (t:=c.2.2) (by omega) (by omega)
 try simp only [x1,x2,x3,x4,x5,y1,y2,y3,y4,y5,z1,z2,z3,z4,z5]
 exact h
theorem chain82_0 {R:V→Prop} (h:R (chA 0)):K0G Tryz.prog glX 82 [iv 0] R:=K0_by hmX hcT 3000 Tryz.func82 (p:=R (chA 0)) (by kernel_rfl) h
theorem cell85_1 {c:Cl} {R:V→Prop} (hb:Bd 3000 c) (h:R (.agg (clr (tn 1 c)))):K0G Tryz.prog glX 85 [(chA 1),.agg (clr c)] R:=by
 refine K0_by hmX hcT 3000 Tryz.func85 (p:=R (V.agg [iv (IntKind.i64.wrap (0 - c.2.1)),iv c.1,iv c.2.2])) (by kernel_rfl) ?_
 unfold Bd Nr at hb
 obtain ⟨x1,x2,x3,x4,x5⟩:=wn6 (t:=c.1) (by omega) (by omega)
 obtain ⟨y1,y2,y3,y4,y5⟩:=wn6 (t:=c.2.1) (by omega) (by omega)
 obtain ⟨z1,z2,z3,z4,z5⟩:=wn6 (t:=c.2.2) (by omega) (by omega)
 try simp only [x1,x2,x3,x4,x5,y1,y2,y3,y4,y5,z1,z2,z3,z4,z5]
 exact h
theorem chain82_1 {R:V→Prop} (h:R (chA 1)):K0G Tryz.prog glX 82 [iv 1] R:=K0_by hmX hcT 3000 Tryz.func82 (p:=R (chA 1)) (by kernel_rfl) h
theorem cell85_2 {c:Cl} {R:V→Prop} (hb:Bd 3000 c) (h:R (.agg (clr (tn 2 c)))):K0G Tryz.prog glX 85 [(chA 2),.agg (clr c)] R:=by
 refine K0_by hmX hcT 3000 Tryz.func85 (p:=R (V.agg [iv (IntKind.i64.wrap (0 - c.1)),iv (IntKind.i64.wrap (0 - c.2.1)),iv c.2.2])) (by kernel_rfl) ?_
 unfold Bd Nr at hb
 obtain ⟨x1,x2,x3,x4,x5⟩:=wn6 (t:=c.1) (by omega) (by omega)
 obtain ⟨y1,y2,y3,y4,y5⟩:=wn6 (t:=c.2.1) (by omega) (by omega)
 obtain ⟨z1,z2,z3,z4,z5⟩:=wn6 (t:=c.2.2) (by omega) (by omega)
 try simp only [x1,x2,x3,x4,x5,y1,y2,y3,y4,y5,z1,z2,z3,z4,z5]
 exact h
theorem chain82_2 {R:V→Prop} (h:R (chA 2)):K0G Tryz.prog glX 82 [iv 2] R:=K0_by hmX hcT 3000 Tryz.func82 (p:=R (chA 2)) (by kernel_rfl) h
theorem cell85_3 {c:Cl} {R:V→Prop} (hb:Bd 3000 c) (h:R (.agg (clr (tn 3 c)))):K0G Tryz.prog glX 85 [(chA 3),.agg (clr c)] R:=by
 refine K0_by hmX hcT 3000 Tryz.func85 (p:=R (V.agg [iv (IntKind.i64.wrap (0 - (IntKind.i64.wrap (0 - c.2.1)))),iv (IntKind.i64.wrap (0 - c.1)),iv c.2.2])) (by kernel_rfl) ?_
 unfold Bd Nr at hb
 obtain ⟨x1,x2,x3,x4,x5⟩:=wn6 (t:=c.1) (by omega) (by omega)
 obtain ⟨y1,y2,y3,y4,y5⟩:=wn6 (t:=c.2.1) (by omega) (by omega)
 obtain ⟨z1,z2,z3,z4,z5⟩:=wn6 (t:=c.2.2) (by omega) (by omega)
 try simp only [x1,x2,x3,x4,x5,y1,y2,y3,y4,y5,z1,z2,z3,z4,z5]
 exact h
theorem chain82_3 {R:V→Prop} (h:R (chA 3)):K0G Tryz.prog glX 82 [iv 3] R:=K0_by hmX hcT 3000 Tryz.func82 (p:=R (chA 3)) (by kernel_rfl) h
theorem cell85_4 {c:Cl} {R:V→Prop} (hb:Bd 3000 c) (h:R (.agg (clr (tn 4 c)))):K0G Tryz.prog glX 85 [(chB 0 1),.agg (clr c)] R:=by
 refine K0_by hmX hcT 3000 Tryz.func85 (p:=R (V.agg [iv c.1,iv (IntKind.i64.wrap (0 - c.2.2)),iv c.2.1])) (by kernel_rfl) ?_
 unfold Bd Nr at hb
 obtain ⟨x1,x2,x3,x4,x5⟩:=wn6 (t:=c.1) (by omega) (by omega)
 obtain ⟨y1,y2,y3,y4,y5⟩:=wn6 (t:=c.2.1) (by omega) (by omega)
 obtain ⟨z1,z2,z3,z4,z5⟩:=wn6 (t:=c.2.2) (by omega) (by omega)
 try simp only [x1,x2,x3,x4,x5,y1,y2,y3,y4,y5,z1,z2,z3,z4,z5]
 exact h
theorem chain82_4 {R:V→Prop} (h:R (chB 0 1)):K0G Tryz.prog glX 82 [iv 4] R:=K0_by hmX hcT 3000 Tryz.func82 (p:=R (chB 0 1)) (by kernel_rfl) h
theorem cell85_5 {c:Cl} {R:V→Prop} (hb:Bd 3000 c) (h:R (.agg (clr (tn 5 c)))):K0G Tryz.prog glX 85 [(chB 1 1),.agg (clr c)] R:=by
 refine K0_by hmX hcT 3000 Tryz.func85 (p:=R (V.agg [iv (IntKind.i64.wrap (0 - c.2.1)),iv (IntKind.i64.wrap (0 - c.2.2)),iv c.1])) (by kernel_rfl) ?_
 unfold Bd Nr at hb
 obtain ⟨x1,x2,x3,x4,x5⟩:=wn6 (t:=c.1) (by omega) (by omega)
 obtain ⟨y1,y2,y3,y4,y5⟩:=wn6 (t:=c.2.1) (by omega) (by omega)
 obtain ⟨z1,z2,z3,z4,z5⟩:=wn6 (t:=c.2.2) (by omega) (by omega)
 try simp only [x1,x2,x3,x4,x5,y1,y2,y3,y4,y5,z1,z2,z3,z4,z5]
 exact h
theorem chain82_5 {R:V→Prop} (h:R (chB 1 1)):K0G Tryz.prog glX 82 [iv 5] R:=K0_by hmX hcT 3000 Tryz.func82 (p:=R (chB 1 1)) (by kernel_rfl) h
theorem cell85_6 {c:Cl} {R:V→Prop} (hb:Bd 3000 c) (h:R (.agg (clr (tn 6 c)))):K0G Tryz.prog glX 85 [(chB 2 1),.agg (clr c)] R:=by
 refine K0_by hmX hcT 3000 Tryz.func85 (p:=R (V.agg [iv (IntKind.i64.wrap (0 - c.1)),iv (IntKind.i64.wrap (0 - c.2.2)),iv (IntKind.i64.wrap (0 - c.2.1))])) (by kernel_rfl) ?_
 unfold Bd Nr at hb
 obtain ⟨x1,x2,x3,x4,x5⟩:=wn6 (t:=c.1) (by omega) (by omega)
 obtain ⟨y1,y2,y3,y4,y5⟩:=wn6 (t:=c.2.1) (by omega) (by omega)
 obtain ⟨z1,z2,z3,z4,z5⟩:=wn6 (t:=c.2.2) (by omega) (by omega)
 try simp only [x1,x2,x3,x4,x5,y1,y2,y3,y4,y5,z1,z2,z3,z4,z5]
 exact h
theorem chain82_6 {R:V→Prop} (h:R (chB 2 1)):K0G Tryz.prog glX 82 [iv 6] R:=K0_by hmX hcT 3000 Tryz.func82 (p:=R (chB 2 1)) (by kernel_rfl) h
theorem cell85_7 {c:Cl} {R:V→Prop} (hb:Bd 3000 c) (h:R (.agg (clr (tn 7 c)))):K0G Tryz.prog glX 85 [(chB 3 1),.agg (clr c)] R:=by
 refine K0_by hmX hcT 3000 Tryz.func85 (p:=R (V.agg [iv (IntKind.i64.wrap (0 - (IntKind.i64.wrap (0 - c.2.1)))),iv (IntKind.i64.wrap (0 - c.2.2)),iv (IntKind.i64.wrap (0 - c.1))])) (by kernel_rfl) ?_
 unfold Bd Nr at hb
 obtain ⟨x1,x2,x3,x4,x5⟩:=wn6 (t:=c.1) (by omega) (by omega)
 obtain ⟨y1,y2,y3,y4,y5⟩:=wn6 (t:=c.2.1) (by omega) (by omega)
 obtain ⟨z1,z2,z3,z4,z5⟩:=wn6 (t:=c.2.2) (by omega) (by omega)
 try simp only [x1,x2,x3,x4,x5,y1,y2,y3,y4,y5,z1,z2,z3,z4,z5]
 exact h
theorem chain82_7 {R:V→Prop} (h:R (chB 3 1)):K0G Tryz.prog glX 82 [iv 7] R:=K0_by hmX hcT 3000 Tryz.func82 (p:=R (chB 3 1)) (by kernel_rfl) h
theorem cell85_8 {c:Cl} {R:V→Prop} (hb:Bd 3000 c) (h:R (.agg (clr (tn 8 c)))):K0G Tryz.prog glX 85 [(chB 0 2),.agg (clr c)] R:=by
 refine K0_by hmX hcT 3000 Tryz.func85 (p:=R (V.agg [iv c.1,iv (IntKind.i64.wrap (0 - c.2.1)),iv (IntKind.i64.wrap (0 - c.2.2))])) (by kernel_rfl) ?_
 unfold Bd Nr at hb
 obtain ⟨x1,x2,x3,x4,x5⟩:=wn6 (t:=c.1) (by omega) (by omega)
 obtain ⟨y1,y2,y3,y4,y5⟩:=wn6 (t:=c.2.1) (by omega) (by omega)
 obtain ⟨z1,z2,z3,z4,z5⟩:=wn6 (t:=c.2.2) (by omega) (by omega)
 try simp only [x1,x2,x3,x4,x5,y1,y2,y3,y4,y5,z1,z2,z3,z4,z5]
 exact h
theorem chain82_8 {R:V→Prop} (h:R (chB 0 2)):K0G Tryz.prog glX 82 [iv 8] R:=K0_by hmX hcT 3000 Tryz.func82 (p:=R (chB 0 2)) (by kernel_rfl) h
theorem cell85_9 {c:Cl} {R:V→Prop} (hb:Bd 3000 c) (h:R (.agg (clr (tn 9 c)))):K0G Tryz.prog glX 85 [(chB 1 2),.agg (clr c)] R:=by
 refine K0_by hmX hcT 3000 Tryz.func85 (p:=R (V.agg [iv (IntKind.i64.wrap (0 - c.2.1)),iv (IntKind.i64.wrap (0 - c.1)),iv (IntKind.i64.wrap (0 - c.2.2))])) (by kernel_rfl) ?_
 unfold Bd Nr at hb
 obtain ⟨x1,x2,x3,x4,x5⟩:=wn6 (t:=c.1) (by omega) (by omega)
 obtain ⟨y1,y2,y3,y4,y5⟩:=wn6 (t:=c.2.1) (by omega) (by omega)
 obtain ⟨z1,z2,z3,z4,z5⟩:=wn6 (t:=c.2.2) (by omega) (by omega)
 try simp only [x1,x2,x3,x4,x5,y1,y2,y3,y4,y5,z1,z2,z3,z4,z5]
 exact h
theorem chain82_9 {R:V→Prop} (h:R (chB 1 2)):K0G Tryz.prog glX 82 [iv 9] R:=K0_by hmX hcT 3000 Tryz.func82 (p:=R (chB 1 2)) (by kernel_rfl) h
theorem cell85_10 {c:Cl} {R:V→Prop} (hb:Bd 3000 c) (h:R (.agg (clr (tn 10 c)))):K0G Tryz.prog glX 85 [(chB 2 2),.agg (clr c)] R:=by
 refine K0_by hmX hcT 3000 Tryz.func85 (p:=R (V.agg [iv (IntKind.i64.wrap (0 - c.1)),iv (IntKind.i64.wrap (0 - (IntKind.i64.wrap (0 - c.2.1)))),iv (IntKind.i64.wrap (0 - c.2.2))])) (by kernel_rfl) ?_
 unfold Bd Nr at hb
 obtain ⟨x1,x2,x3,x4,x5⟩:=wn6 (t:=c.1) (by omega) (by omega)
 obtain ⟨y1,y2,y3,y4,y5⟩:=wn6 (t:=c.2.1) (by omega) (by omega)
 obtain ⟨z1,z2,z3,z4,z5⟩:=wn6 (t:=c.2.2) (by omega) (by omega)
 try simp only [x1,x2,x3,x4,x5,y1,y2,y3,y4,y5,z1,z2,z3,z4,z5]
 exact h
theorem chain82_10 {R:V→Prop} (h:R (chB 2 2)):K0G Tryz.prog glX 82 [iv 10] R:=K0_by hmX hcT 3000 Tryz.func82 (p:=R (chB 2 2)) (by kernel_rfl) h
theorem cell85_11 {c:Cl} {R:V→Prop} (hb:Bd 3000 c) (h:R (.agg (clr (tn 11 c)))):K0G Tryz.prog glX 85 [(chB 3 2),.agg (clr c)] R:=by
 refine K0_by hmX hcT 3000 Tryz.func85 (p:=R (V.agg [iv (IntKind.i64.wrap (0 - (IntKind.i64.wrap (0 - c.2.1)))),iv (IntKind.i64.wrap (0 - (IntKind.i64.wrap (0 - c.1)))),iv (IntKind.i64.wrap (0 - c.2.2))])) (by kernel_rfl) ?_
 unfold Bd Nr at hb
 obtain ⟨x1,x2,x3,x4,x5⟩:=wn6 (t:=c.1) (by omega) (by omega)
 obtain ⟨y1,y2,y3,y4,y5⟩:=wn6 (t:=c.2.1) (by omega) (by omega)
 obtain ⟨z1,z2,z3,z4,z5⟩:=wn6 (t:=c.2.2) (by omega) (by omega)
 try simp only [x1,x2,x3,x4,x5,y1,y2,y3,y4,y5,z1,z2,z3,z4,z5]
 exact h
theorem chain82_11 {R:V→Prop} (h:R (chB 3 2)):K0G Tryz.prog glX 82 [iv 11] R:=K0_by hmX hcT 3000 Tryz.func82 (p:=R (chB 3 2)) (by kernel_rfl) h
theorem cell85_12 {c:Cl} {R:V→Prop} (hb:Bd 3000 c) (h:R (.agg (clr (tn 12 c)))):K0G Tryz.prog glX 85 [(chB 0 3),.agg (clr c)] R:=by
 refine K0_by hmX hcT 3000 Tryz.func85 (p:=R (V.agg [iv c.1,iv (IntKind.i64.wrap (0 - (IntKind.i64.wrap (0 - c.2.2)))),iv (IntKind.i64.wrap (0 - c.2.1))])) (by kernel_rfl) ?_
 unfold Bd Nr at hb
 obtain ⟨x1,x2,x3,x4,x5⟩:=wn6 (t:=c.1) (by omega) (by omega)
 obtain ⟨y1,y2,y3,y4,y5⟩:=wn6 (t:=c.2.1) (by omega) (by omega)
 obtain ⟨z1,z2,z3,z4,z5⟩:=wn6 (t:=c.2.2) (by omega) (by omega)
 try simp only [x1,x2,x3,x4,x5,y1,y2,y3,y4,y5,z1,z2,z3,z4,z5]
 exact h
theorem chain82_12 {R:V→Prop} (h:R (chB 0 3)):K0G Tryz.prog glX 82 [iv 12] R:=K0_by hmX hcT 3000 Tryz.func82 (p:=R (chB 0 3)) (by kernel_rfl) h
theorem cell85_13 {c:Cl} {R:V→Prop} (hb:Bd 3000 c) (h:R (.agg (clr (tn 13 c)))):K0G Tryz.prog glX 85 [(chB 1 3),.agg (clr c)] R:=by
 refine K0_by hmX hcT 3000 Tryz.func85 (p:=R (V.agg [iv (IntKind.i64.wrap (0 - c.2.1)),iv (IntKind.i64.wrap (0 - (IntKind.i64.wrap (0 - c.2.2)))),iv (IntKind.i64.wrap (0 - c.1))])) (by kernel_rfl) ?_
 unfold Bd Nr at hb
 obtain ⟨x1,x2,x3,x4,x5⟩:=wn6 (t:=c.1) (by omega) (by omega)
 obtain ⟨y1,y2,y3,y4,y5⟩:=wn6 (t:=c.2.1) (by omega) (by omega)
 obtain ⟨z1,z2,z3,z4,z5⟩:=wn6 (t:=c.2.2) (by omega) (by omega)
 try simp only [x1,x2,x3,x4,x5,y1,y2,y3,y4,y5,z1,z2,z3,z4,z5]
 exact h
theorem chain82_13 {R:V→Prop} (h:R (chB 1 3)):K0G Tryz.prog glX 82 [iv 13] R:=K0_by hmX hcT 3000 Tryz.func82 (p:=R (chB 1 3)) (by kernel_rfl) h
theorem cell85_14 {c:Cl} {R:V→Prop} (hb:Bd 3000 c) (h:R (.agg (clr (tn 14 c)))):K0G Tryz.prog glX 85 [(chB 2 3),.agg (clr c)] R:=by
 refine K0_by hmX hcT 3000 Tryz.func85 (p:=R (V.agg [iv (IntKind.i64.wrap (0 - c.1)),iv (IntKind.i64.wrap (0 - (IntKind.i64.wrap (0 - c.2.2)))),iv (IntKind.i64.wrap (0 - (IntKind.i64.wrap (0 - c.2.1))))])) (by kernel_rfl) ?_
 unfold Bd Nr at hb
 obtain ⟨x1,x2,x3,x4,x5⟩:=wn6 (t:=c.1) (by omega) (by omega)
 obtain ⟨y1,y2,y3,y4,y5⟩:=wn6 (t:=c.2.1) (by omega) (by omega)
 obtain ⟨z1,z2,z3,z4,z5⟩:=wn6 (t:=c.2.2) (by omega) (by omega)
 try simp only [x1,x2,x3,x4,x5,y1,y2,y3,y4,y5,z1,z2,z3,z4,z5]
 exact h
theorem chain82_14 {R:V→Prop} (h:R (chB 2 3)):K0G Tryz.prog glX 82 [iv 14] R:=K0_by hmX hcT 3000 Tryz.func82 (p:=R (chB 2 3)) (by kernel_rfl) h
theorem cell85_15 {c:Cl} {R:V→Prop} (hb:Bd 3000 c) (h:R (.agg (clr (tn 15 c)))):K0G Tryz.prog glX 85 [(chB 3 3),.agg (clr c)] R:=by
 refine K0_by hmX hcT 3000 Tryz.func85 (p:=R (V.agg [iv (IntKind.i64.wrap (0 - (IntKind.i64.wrap (0 - c.2.1)))),iv (IntKind.i64.wrap (0 - (IntKind.i64.wrap (0 - c.2.2)))),iv (IntKind.i64.wrap (0 - (IntKind.i64.wrap (0 - c.1))))])) (by kernel_rfl) ?_
 unfold Bd Nr at hb
 obtain ⟨x1,x2,x3,x4,x5⟩:=wn6 (t:=c.1) (by omega) (by omega)
 obtain ⟨y1,y2,y3,y4,y5⟩:=wn6 (t:=c.2.1) (by omega) (by omega)
 obtain ⟨z1,z2,z3,z4,z5⟩:=wn6 (t:=c.2.2) (by omega) (by omega)
 try simp only [x1,x2,x3,x4,x5,y1,y2,y3,y4,y5,z1,z2,z3,z4,z5]
 exact h
theorem chain82_15 {R:V→Prop} (h:R (chB 3 3)):K0G Tryz.prog glX 82 [iv 15] R:=K0_by hmX hcT 3000 Tryz.func82 (p:=R (chB 3 3)) (by kernel_rfl) h
theorem cell85_16 {c:Cl} {R:V→Prop} (hb:Bd 3000 c) (h:R (.agg (clr (tn 16 c)))):K0G Tryz.prog glX 85 [(chC 0 1),.agg (clr c)] R:=by
 refine K0_by hmX hcT 3000 Tryz.func85 (p:=R (V.agg [iv (IntKind.i64.wrap (0 - (IntKind.i64.wrap (0 - c.2.2)))),iv c.1,iv c.2.1])) (by kernel_rfl) ?_
 unfold Bd Nr at hb
 obtain ⟨x1,x2,x3,x4,x5⟩:=wn6 (t:=c.1) (by omega) (by omega)
 obtain ⟨y1,y2,y3,y4,y5⟩:=wn6 (t:=c.2.1) (by omega) (by omega)
 obtain ⟨z1,z2,z3,z4,z5⟩:=wn6 (t:=c.2.2) (by omega) (by omega)
 try simp only [x1,x2,x3,x4,x5,y1,y2,y3,y4,y5,z1,z2,z3,z4,z5]
 exact h
theorem chain82_16 {R:V→Prop} (h:R (chC 0 1)):K0G Tryz.prog glX 82 [iv 16] R:=K0_by hmX hcT 3000 Tryz.func82 (p:=R (chC 0 1)) (by kernel_rfl) h
theorem cell85_17 {c:Cl} {R:V→Prop} (hb:Bd 3000 c) (h:R (.agg (clr (tn 17 c)))):K0G Tryz.prog glX 85 [(chC 1 1),.agg (clr c)] R:=by
 refine K0_by hmX hcT 3000 Tryz.func85 (p:=R (V.agg [iv (IntKind.i64.wrap (0 - (IntKind.i64.wrap (0 - c.2.2)))),iv (IntKind.i64.wrap (0 - c.2.1)),iv c.1])) (by kernel_rfl) ?_
 unfold Bd Nr at hb
 obtain ⟨x1,x2,x3,x4,x5⟩:=wn6 (t:=c.1) (by omega) (by omega)
 obtain ⟨y1,y2,y3,y4,y5⟩:=wn6 (t:=c.2.1) (by omega) (by omega)
 obtain ⟨z1,z2,z3,z4,z5⟩:=wn6 (t:=c.2.2) (by omega) (by omega)
 try simp only [x1,x2,x3,x4,x5,y1,y2,y3,y4,y5,z1,z2,z3,z4,z5]
 exact h
theorem chain82_17 {R:V→Prop} (h:R (chC 1 1)):K0G Tryz.prog glX 82 [iv 17] R:=K0_by hmX hcT 3000 Tryz.func82 (p:=R (chC 1 1)) (by kernel_rfl) h
theorem cell85_18 {c:Cl} {R:V→Prop} (hb:Bd 3000 c) (h:R (.agg (clr (tn 18 c)))):K0G Tryz.prog glX 85 [(chC 2 1),.agg (clr c)] R:=by
 refine K0_by hmX hcT 3000 Tryz.func85 (p:=R (V.agg [iv (IntKind.i64.wrap (0 - (IntKind.i64.wrap (0 - c.2.2)))),iv (IntKind.i64.wrap (0 - c.1)),iv (IntKind.i64.wrap (0 - c.2.1))])) (by kernel_rfl) ?_
 unfold Bd Nr at hb
 obtain ⟨x1,x2,x3,x4,x5⟩:=wn6 (t:=c.1) (by omega) (by omega)
 obtain ⟨y1,y2,y3,y4,y5⟩:=wn6 (t:=c.2.1) (by omega) (by omega)
 obtain ⟨z1,z2,z3,z4,z5⟩:=wn6 (t:=c.2.2) (by omega) (by omega)
 try simp only [x1,x2,x3,x4,x5,y1,y2,y3,y4,y5,z1,z2,z3,z4,z5]
 exact h
theorem chain82_18 {R:V→Prop} (h:R (chC 2 1)):K0G Tryz.prog glX 82 [iv 18] R:=K0_by hmX hcT 3000 Tryz.func82 (p:=R (chC 2 1)) (by kernel_rfl) h
theorem cell85_19 {c:Cl} {R:V→Prop} (hb:Bd 3000 c) (h:R (.agg (clr (tn 19 c)))):K0G Tryz.prog glX 85 [(chC 3 1),.agg (clr c)] R:=by
 refine K0_by hmX hcT 3000 Tryz.func85 (p:=R (V.agg [iv (IntKind.i64.wrap (0 - (IntKind.i64.wrap (0 - c.2.2)))),iv (IntKind.i64.wrap (0 - (IntKind.i64.wrap (0 - c.2.1)))),iv (IntKind.i64.wrap (0 - c.1))])) (by kernel_rfl) ?_
 unfold Bd Nr at hb
 obtain ⟨x1,x2,x3,x4,x5⟩:=wn6 (t:=c.1) (by omega) (by omega)
 obtain ⟨y1,y2,y3,y4,y5⟩:=wn6 (t:=c.2.1) (by omega) (by omega)
 obtain ⟨z1,z2,z3,z4,z5⟩:=wn6 (t:=c.2.2) (by omega) (by omega)
 try simp only [x1,x2,x3,x4,x5,y1,y2,y3,y4,y5,z1,z2,z3,z4,z5]
 exact h
theorem chain82_19 {R:V→Prop} (h:R (chC 3 1)):K0G Tryz.prog glX 82 [iv 19] R:=K0_by hmX hcT 3000 Tryz.func82 (p:=R (chC 3 1)) (by kernel_rfl) h
theorem cell85_20 {c:Cl} {R:V→Prop} (hb:Bd 3000 c) (h:R (.agg (clr (tn 20 c)))):K0G Tryz.prog glX 85 [(chC 0 3),.agg (clr c)] R:=by
 refine K0_by hmX hcT 3000 Tryz.func85 (p:=R (V.agg [iv (IntKind.i64.wrap (0 - (IntKind.i64.wrap (0 - (IntKind.i64.wrap (0 - c.2.2)))))),iv (IntKind.i64.wrap (0 - c.1)),iv c.2.1])) (by kernel_rfl) ?_
 unfold Bd Nr at hb
 obtain ⟨x1,x2,x3,x4,x5⟩:=wn6 (t:=c.1) (by omega) (by omega)
 obtain ⟨y1,y2,y3,y4,y5⟩:=wn6 (t:=c.2.1) (by omega) (by omega)
 obtain ⟨z1,z2,z3,z4,z5⟩:=wn6 (t:=c.2.2) (by omega) (by omega)
 try simp only [x1,x2,x3,x4,x5,y1,y2,y3,y4,y5,z1,z2,z3,z4,z5]
 exact h
theorem chain82_20 {R:V→Prop} (h:R (chC 0 3)):K0G Tryz.prog glX 82 [iv 20] R:=K0_by hmX hcT 3000 Tryz.func82 (p:=R (chC 0 3)) (by kernel_rfl) h
theorem cell85_21 {c:Cl} {R:V→Prop} (hb:Bd 3000 c) (h:R (.agg (clr (tn 21 c)))):K0G Tryz.prog glX 85 [(chC 1 3),.agg (clr c)] R:=by
 refine K0_by hmX hcT 3000 Tryz.func85 (p:=R (V.agg [iv (IntKind.i64.wrap (0 - (IntKind.i64.wrap (0 - (IntKind.i64.wrap (0 - c.2.2)))))),iv (IntKind.i64.wrap (0 - (IntKind.i64.wrap (0 - c.2.1)))),iv c.1])) (by kernel_rfl) ?_
 unfold Bd Nr at hb
 obtain ⟨x1,x2,x3,x4,x5⟩:=wn6 (t:=c.1) (by omega) (by omega)
 obtain ⟨y1,y2,y3,y4,y5⟩:=wn6 (t:=c.2.1) (by omega) (by omega)
 obtain ⟨z1,z2,z3,z4,z5⟩:=wn6 (t:=c.2.2) (by omega) (by omega)
 try simp only [x1,x2,x3,x4,x5,y1,y2,y3,y4,y5,z1,z2,z3,z4,z5]
 exact h
theorem chain82_21 {R:V→Prop} (h:R (chC 1 3)):K0G Tryz.prog glX 82 [iv 21] R:=K0_by hmX hcT 3000 Tryz.func82 (p:=R (chC 1 3)) (by kernel_rfl) h
theorem cell85_22 {c:Cl} {R:V→Prop} (hb:Bd 3000 c) (h:R (.agg (clr (tn 22 c)))):K0G Tryz.prog glX 85 [(chC 2 3),.agg (clr c)] R:=by
 refine K0_by hmX hcT 3000 Tryz.func85 (p:=R (V.agg [iv (IntKind.i64.wrap (0 - (IntKind.i64.wrap (0 - (IntKind.i64.wrap (0 - c.2.2)))))),iv (IntKind.i64.wrap (0 - (IntKind.i64.wrap (0 - c.1)))),iv (IntKind.i64.wrap (0 - c.2.1))])) (by kernel_rfl) ?_
 unfold Bd Nr at hb
 obtain ⟨x1,x2,x3,x4,x5⟩:=wn6 (t:=c.1) (by omega) (by omega)
 obtain ⟨y1,y2,y3,y4,y5⟩:=wn6 (t:=c.2.1) (by omega) (by omega)
 obtain ⟨z1,z2,z3,z4,z5⟩:=wn6 (t:=c.2.2) (by omega) (by omega)
 try simp only [x1,x2,x3,x4,x5,y1,y2,y3,y4,y5,z1,z2,z3,z4,z5]
 exact h
theorem chain82_22 {R:V→Prop} (h:R (chC 2 3)):K0G Tryz.prog glX 82 [iv 22] R:=K0_by hmX hcT 3000 Tryz.func82 (p:=R (chC 2 3)) (by kernel_rfl) h
theorem cell85_23 {c:Cl} {R:V→Prop} (hb:Bd 3000 c) (h:R (.agg (clr (tn 23 c)))):K0G Tryz.prog glX 85 [(chC 3 3),.agg (clr c)] R:=by
 refine K0_by hmX hcT 3000 Tryz.func85 (p:=R (V.agg [iv (IntKind.i64.wrap (0 - (IntKind.i64.wrap (0 - (IntKind.i64.wrap (0 - c.2.2)))))),iv (IntKind.i64.wrap (0 - (IntKind.i64.wrap (0 - (IntKind.i64.wrap (0 - c.2.1)))))),iv (IntKind.i64.wrap (0 - c.1))])) (by kernel_rfl) ?_
 unfold Bd Nr at hb
 obtain ⟨x1,x2,x3,x4,x5⟩:=wn6 (t:=c.1) (by omega) (by omega)
 obtain ⟨y1,y2,y3,y4,y5⟩:=wn6 (t:=c.2.1) (by omega) (by omega)
 obtain ⟨z1,z2,z3,z4,z5⟩:=wn6 (t:=c.2.2) (by omega) (by omega)
 try simp only [x1,x2,x3,x4,x5,y1,y2,y3,y4,y5,z1,z2,z3,z4,z5]
 exact h
theorem chain82_23 {R:V→Prop} (h:R (chC 3 3)):K0G Tryz.prog glX 82 [iv 23] R:=K0_by hmX hcT 3000 Tryz.func82 (p:=R (chC 3 3)) (by kernel_rfl) h
def ch (n:Nat):V:=if n / 4<1 then chA (n % 4:Nat) else if n / 4<4 then chB (n % 4:Nat) (n / 4:Nat) else chC (n % 4:Nat) (if n / 4=4 then 1 else 3)
theorem cell85 {c:Cl} {R:V→Prop} (hb:Bd 3000 c) : ∀ n:Nat,n<24→R (.agg (clr (tn n c)))→K0G Tryz.prog glX 85 [ch n,.agg (clr c)] R
 | 0,_=>fun h=>cell85_0 hb h
 | 1,_=>fun h=>cell85_1 hb h
 | 2,_=>fun h=>cell85_2 hb h
 | 3,_=>fun h=>cell85_3 hb h
 | 4,_=>fun h=>cell85_4 hb h
 | 5,_=>fun h=>cell85_5 hb h
 | 6,_=>fun h=>cell85_6 hb h
 | 7,_=>fun h=>cell85_7 hb h
 | 8,_=>fun h=>cell85_8 hb h
 | 9,_=>fun h=>cell85_9 hb h
 | 10,_=>fun h=>cell85_10 hb h
 | 11,_=>fun h=>cell85_11 hb h
 | 12,_=>fun h=>cell85_12 hb h
 | 13,_=>fun h=>cell85_13 hb h
 | 14,_=>fun h=>cell85_14 hb h
 | 15,_=>fun h=>cell85_15 hb h
 | 16,_=>fun h=>cell85_16 hb h
 | 17,_=>fun h=>cell85_17 hb h
 | 18,_=>fun h=>cell85_18 hb h
 | 19,_=>fun h=>cell85_19 hb h
 | 20,_=>fun h=>cell85_20 hb h
 | 21,_=>fun h=>cell85_21 hb h
 | 22,_=>fun h=>cell85_22 hb h
 | 23,_=>fun h=>cell85_23 hb h
 | n+24,h=>absurd h (by omega)
theorem chain82 {R:V→Prop} : ∀ n:Nat,n<24→R (ch n)→K0G Tryz.prog glX 82 [iv (n:Int)] R
 | 0,_=>fun h=>chain82_0 h
 | 1,_=>fun h=>chain82_1 h
 | 2,_=>fun h=>chain82_2 h
 | 3,_=>fun h=>chain82_3 h
 | 4,_=>fun h=>chain82_4 h
 | 5,_=>fun h=>chain82_5 h
 | 6,_=>fun h=>chain82_6 h
 | 7,_=>fun h=>chain82_7 h
 | 8,_=>fun h=>chain82_8 h
 | 9,_=>fun h=>chain82_9 h
 | 10,_=>fun h=>chain82_10 h
 | 11,_=>fun h=>chain82_11 h
 | 12,_=>fun h=>chain82_12 h
 | 13,_=>fun h=>chain82_13 h
 | 14,_=>fun h=>chain82_14 h
 | 15,_=>fun h=>chain82_15 h
 | 16,_=>fun h=>chain82_16 h
 | 17,_=>fun h=>chain82_17 h
 | 18,_=>fun h=>chain82_18 h
 | 19,_=>fun h=>chain82_19 h
 | 20,_=>fun h=>chain82_20 h
 | 21,_=>fun h=>chain82_21 h
 | 22,_=>fun h=>chain82_22 h
 | 23,_=>fun h=>chain82_23 h
 | n+24,h=>absurd h (by omega)
def ptL:List (List Int):=[[0,1,2,3,4,5],[2,3,1,0,4,5],[1,0,3,2,4,5],[3,2,0,1,4,5],[0,1,4,5,3,2],[4,5,1,0,3,2],[1,0,5,4,3,2],[5,4,0,1,3,2],[0,1,3,2,5,4],[3,2,1,0,5,4],[1,0,2,3,5,4],[2,3,0,1,5,4],[0,1,5,4,2,3],[5,4,1,0,2,3],[1,0,4,5,2,3],[4,5,0,1,2,3],[2,3,4,5,0,1],[4,5,3,2,0,1],[3,2,5,4,0,1],[5,4,2,3,0,1],[3,2,4,5,1,0],[4,5,2,3,1,0],[2,3,5,4,1,0],[5,4,3,2,1,0]]
def pt (n:Nat) (d:Int):Int:=(ptL.getD n []).getD d.toNat 0
theorem dir83_0_0 {R:V→Prop} (h:R (iv 0)):K0G Tryz.prog glX 83 [(chA 0),iv 0] R:=K0_by hmX hcU 3000 Tryz.func83 (p:=R (iv 0)) (by kernel_rfl) h
theorem dir83_0_1 {R:V→Prop} (h:R (iv 1)):K0G Tryz.prog glX 83 [(chA 0),iv 1] R:=K0_by hmX hcU 3000 Tryz.func83 (p:=R (iv 1)) (by kernel_rfl) h
theorem dir83_0_2 {R:V→Prop} (h:R (iv 2)):K0G Tryz.prog glX 83 [(chA 0),iv 2] R:=K0_by hmX hcU 3000 Tryz.func83 (p:=R (iv 2)) (by kernel_rfl) h
theorem dir83_0_3 {R:V→Prop} (h:R (iv 3)):K0G Tryz.prog glX 83 [(chA 0),iv 3] R:=K0_by hmX hcU 3000 Tryz.func83 (p:=R (iv 3)) (by kernel_rfl) h
theorem dir83_0_4 {R:V→Prop} (h:R (iv 4)):K0G Tryz.prog glX 83 [(chA 0),iv 4] R:=K0_by hmX hcU 3000 Tryz.func83 (p:=R (iv 4)) (by kernel_rfl) h
theorem dir83_0_5 {R:V→Prop} (h:R (iv 5)):K0G Tryz.prog glX 83 [(chA 0),iv 5] R:=K0_by hmX hcU 3000 Tryz.func83 (p:=R (iv 5)) (by kernel_rfl) h
theorem dir83_1_0 {R:V→Prop} (h:R (iv 2)):K0G Tryz.prog glX 83 [(chA 1),iv 0] R:=K0_by hmX hcU 3000 Tryz.func83 (p:=R (iv 2)) (by kernel_rfl) h
theorem dir83_1_1 {R:V→Prop} (h:R (iv 3)):K0G Tryz.prog glX 83 [(chA 1),iv 1] R:=K0_by hmX hcU 3000 Tryz.func83 (p:=R (iv 3)) (by kernel_rfl) h
theorem dir83_1_2 {R:V→Prop} (h:R (iv 1)):K0G Tryz.prog glX 83 [(chA 1),iv 2] R:=K0_by hmX hcU 3000 Tryz.func83 (p:=R (iv 1)) (by kernel_rfl) h
theorem dir83_1_3 {R:V→Prop} (h:R (iv 0)):K0G Tryz.prog glX 83 [(chA 1),iv 3] R:=K0_by hmX hcU 3000 Tryz.func83 (p:=R (iv 0)) (by kernel_rfl) h
theorem dir83_1_4 {R:V→Prop} (h:R (iv 4)):K0G Tryz.prog glX 83 [(chA 1),iv 4] R:=K0_by hmX hcU 3000 Tryz.func83 (p:=R (iv 4)) (by kernel_rfl) h
theorem dir83_1_5 {R:V→Prop} (h:R (iv 5)):K0G Tryz.prog glX 83 [(chA 1),iv 5] R:=K0_by hmX hcU 3000 Tryz.func83 (p:=R (iv 5)) (by kernel_rfl) h
theorem dir83_2_0 {R:V→Prop} (h:R (iv 1)):K0G Tryz.prog glX 83 [(chA 2),iv 0] R:=K0_by hmX hcU 3000 Tryz.func83 (p:=R (iv 1)) (by kernel_rfl) h
theorem dir83_2_1 {R:V→Prop} (h:R (iv 0)):K0G Tryz.prog glX 83 [(chA 2),iv 1] R:=K0_by hmX hcU 3000 Tryz.func83 (p:=R (iv 0)) (by kernel_rfl) h
theorem dir83_2_2 {R:V→Prop} (h:R (iv 3)):K0G Tryz.prog glX 83 [(chA 2),iv 2] R:=K0_by hmX hcU 3000 Tryz.func83 (p:=R (iv 3)) (by kernel_rfl) h
theorem dir83_2_3 {R:V→Prop} (h:R (iv 2)):K0G Tryz.prog glX 83 [(chA 2),iv 3] R:=K0_by hmX hcU 3000 Tryz.func83 (p:=R (iv 2)) (by kernel_rfl) h
theorem dir83_2_4 {R:V→Prop} (h:R (iv 4)):K0G Tryz.prog glX 83 [(chA 2),iv 4] R:=K0_by hmX hcU 3000 Tryz.func83 (p:=R (iv 4)) (by kernel_rfl) h
theorem dir83_2_5 {R:V→Prop} (h:R (iv 5)):K0G Tryz.prog glX 83 [(chA 2),iv 5] R:=K0_by hmX hcU 3000 Tryz.func83 (p:=R (iv 5)) (by kernel_rfl) h
theorem dir83_3_0 {R:V→Prop} (h:R (iv 3)):K0G Tryz.prog glX 83 [(chA 3),iv 0] R:=K0_by hmX hcU 3000 Tryz.func83 (p:=R (iv 3)) (by kernel_rfl) h
theorem dir83_3_1 {R:V→Prop} (h:R (iv 2)):K0G Tryz.prog glX 83 [(chA 3),iv 1] R:=K0_by hmX hcU 3000 Tryz.func83 (p:=R (iv 2)) (by kernel_rfl) h
theorem dir83_3_2 {R:V→Prop} (h:R (iv 0)):K0G Tryz.prog glX 83 [(chA 3),iv 2] R:=K0_by hmX hcU 3000 Tryz.func83 (p:=R (iv 0)) (by kernel_rfl) h
theorem dir83_3_3 {R:V→Prop} (h:R (iv 1)):K0G Tryz.prog glX 83 [(chA 3),iv 3] R:=K0_by hmX hcU 3000 Tryz.func83 (p:=R (iv 1)) (by kernel_rfl) h
theorem dir83_3_4 {R:V→Prop} (h:R (iv 4)):K0G Tryz.prog glX 83 [(chA 3),iv 4] R:=K0_by hmX hcU 3000 Tryz.func83 (p:=R (iv 4)) (by kernel_rfl) h
theorem dir83_3_5 {R:V→Prop} (h:R (iv 5)):K0G Tryz.prog glX 83 [(chA 3),iv 5] R:=K0_by hmX hcU 3000 Tryz.func83 (p:=R (iv 5)) (by kernel_rfl) h
theorem dir83_4_0 {R:V→Prop} (h:R (iv 0)):K0G Tryz.prog glX 83 [(chB 0 1),iv 0] R:=K0_by hmX hcU 3000 Tryz.func83 (p:=R (iv 0)) (by kernel_rfl) h
theorem dir83_4_1 {R:V→Prop} (h:R (iv 1)):K0G Tryz.prog glX 83 [(chB 0 1),iv 1] R:=K0_by hmX hcU 3000 Tryz.func83 (p:=R (iv 1)) (by kernel_rfl) h
theorem dir83_4_2 {R:V→Prop} (h:R (iv 4)):K0G Tryz.prog glX 83 [(chB 0 1),iv 2] R:=K0_by hmX hcU 3000 Tryz.func83 (p:=R (iv 4)) (by kernel_rfl) h
theorem dir83_4_3 {R:V→Prop} (h:R (iv 5)):K0G Tryz.prog glX 83 [(chB 0 1),iv 3] R:=K0_by hmX hcU 3000 Tryz.func83 (p:=R (iv 5)) (by kernel_rfl) h
theorem dir83_4_4 {R:V→Prop} (h:R (iv 3)):K0G Tryz.prog glX 83 [(chB 0 1),iv 4] R:=K0_by hmX hcU 3000 Tryz.func83 (p:=R (iv 3)) (by kernel_rfl) h
theorem dir83_4_5 {R:V→Prop} (h:R (iv 2)):K0G Tryz.prog glX 83 [(chB 0 1),iv 5] R:=K0_by hmX hcU 3000 Tryz.func83 (p:=R (iv 2)) (by kernel_rfl) h
theorem dir83_5_0 {R:V→Prop} (h:R (iv 4)):K0G Tryz.prog glX 83 [(chB 1 1),iv 0] R:=K0_by hmX hcU 3000 Tryz.func83 (p:=R (iv 4)) (by kernel_rfl) h
theorem dir83_5_1 {R:V→Prop} (h:R (iv 5)):K0G Tryz.prog glX 83 [(chB 1 1),iv 1] R:=K0_by hmX hcU 3000 Tryz.func83 (p:=R (iv 5)) (by kernel_rfl) h
theorem dir83_5_2 {R:V→Prop} (h:R (iv 1)):K0G Tryz.prog glX 83 [(chB 1 1),iv 2] R:=K0_by hmX hcU 3000 Tryz.func83 (p:=R (iv 1)) (by kernel_rfl) h
theorem dir83_5_3 {R:V→Prop} (h:R (iv 0)):K0G Tryz.prog glX 83 [(chB 1 1),iv 3] R:=K0_by hmX hcU 3000 Tryz.func83 (p:=R (iv 0)) (by kernel_rfl) h
theorem dir83_5_4 {R:V→Prop} (h:R (iv 3)):K0G Tryz.prog glX 83 [(chB 1 1),iv 4] R:=K0_by hmX hcU 3000 Tryz.func83 (p:=R (iv 3)) (by kernel_rfl) h
theorem dir83_5_5 {R:V→Prop} (h:R (iv 2)):K0G Tryz.prog glX 83 [(chB 1 1),iv 5] R:=K0_by hmX hcU 3000 Tryz.func83 (p:=R (iv 2)) (by kernel_rfl) h
theorem dir83_6_0 {R:V→Prop} (h:R (iv 1)):K0G Tryz.prog glX 83 [(chB 2 1),iv 0] R:=K0_by hmX hcU 3000 Tryz.func83 (p:=R (iv 1)) (by kernel_rfl) h
theorem dir83_6_1 {R:V→Prop} (h:R (iv 0)):K0G Tryz.prog glX 83 [(chB 2 1),iv 1] R:=K0_by hmX hcU 3000 Tryz.func83 (p:=R (iv 0)) (by kernel_rfl) h
theorem dir83_6_2 {R:V→Prop} (h:R (iv 5)):K0G Tryz.prog glX 83 [(chB 2 1),iv 2] R:=K0_by hmX hcU 3000 Tryz.func83 (p:=R (iv 5)) (by kernel_rfl) h
theorem dir83_6_3 {R:V→Prop} (h:R (iv 4)):K0G Tryz.prog glX 83 [(chB 2 1),iv 3] R:=K0_by hmX hcU 3000 Tryz.func83 (p:=R (iv 4)) (by kernel_rfl) h
theorem dir83_6_4 {R:V→Prop} (h:R (iv 3)):K0G Tryz.prog glX 83 [(chB 2 1),iv 4] R:=K0_by hmX hcU 3000 Tryz.func83 (p:=R (iv 3)) (by kernel_rfl) h
theorem dir83_6_5 {R:V→Prop} (h:R (iv 2)):K0G Tryz.prog glX 83 [(chB 2 1),iv 5] R:=K0_by hmX hcU 3000 Tryz.func83 (p:=R (iv 2)) (by kernel_rfl) h
theorem dir83_7_0 {R:V→Prop} (h:R (iv 5)):K0G Tryz.prog glX 83 [(chB 3 1),iv 0] R:=K0_by hmX hcU 3000 Tryz.func83 (p:=R (iv 5)) (by kernel_rfl) h
theorem dir83_7_1 {R:V→Prop} (h:R (iv 4)):K0G Tryz.prog glX 83 [(chB 3 1),iv 1] R:=K0_by hmX hcU 3000 Tryz.func83 (p:=R (iv 4)) (by kernel_rfl) h
theorem dir83_7_2 {R:V→Prop} (h:R (iv 0)):K0G Tryz.prog glX 83 [(chB 3 1),iv 2] R:=K0_by hmX hcU 3000 Tryz.func83 (p:=R (iv 0)) (by kernel_rfl) h
theorem dir83_7_3 {R:V→Prop} (h:R (iv 1)):K0G Tryz.prog glX 83 [(chB 3 1),iv 3] R:=K0_by hmX hcU 3000 Tryz.func83 (p:=R (iv 1)) (by kernel_rfl) h
theorem dir83_7_4 {R:V→Prop} (h:R (iv 3)):K0G Tryz.prog glX 83 [(chB 3 1),iv 4] R:=K0_by hmX hcU 3000 Tryz.func83 (p:=R (iv 3)) (by kernel_rfl) h
theorem dir83_7_5 {R:V→Prop} (h:R (iv 2)):K0G Tryz.prog glX 83 [(chB 3 1),iv 5] R:=K0_by hmX hcU 3000 Tryz.func83 (p:=R (iv 2)) (by kernel_rfl) h
theorem dir83_8_0 {R:V→Prop} (h:R (iv 0)):K0G Tryz.prog glX 83 [(chB 0 2),iv 0] R:=K0_by hmX hcU 3000 Tryz.func83 (p:=R (iv 0)) (by kernel_rfl) h
theorem dir83_8_1 {R:V→Prop} (h:R (iv 1)):K0G Tryz.prog glX 83 [(chB 0 2),iv 1] R:=K0_by hmX hcU 3000 Tryz.func83 (p:=R (iv 1)) (by kernel_rfl) h
theorem dir83_8_2 {R:V→Prop} (h:R (iv 3)):K0G Tryz.prog glX 83 [(chB 0 2),iv 2] R:=K0_by hmX hcU 3000 Tryz.func83 (p:=R (iv 3)) (by kernel_rfl) h
theorem dir83_8_3 {R:V→Prop} (h:R (iv 2)):K0G Tryz.prog glX 83 [(chB 0 2),iv 3] R:=K0_by hmX hcU 3000 Tryz.func83 (p:=R (iv 2)) (by kernel_rfl) h
theorem dir83_8_4 {R:V→Prop} (h:R (iv 5)):K0G Tryz.prog glX 83 [(chB 0 2),iv 4] R:=K0_by hmX hcU 3000 Tryz.func83 (p:=R (iv 5)) (by kernel_rfl) h
theorem dir83_8_5 {R:V→Prop} (h:R (iv 4)):K0G Tryz.prog glX 83 [(chB 0 2),iv 5] R:=K0_by hmX hcU 3000 Tryz.func83 (p:=R (iv 4)) (by kernel_rfl) h
theorem dir83_9_0 {R:V→Prop} (h:R (iv 3)):K0G Tryz.prog glX 83 [(chB 1 2),iv 0] R:=K0_by hmX hcU 3000 Tryz.func83 (p:=R (iv 3)) (by kernel_rfl) h
theorem dir83_9_1 {R:V→Prop} (h:R (iv 2)):K0G Tryz.prog glX 83 [(chB 1 2),iv 1] R:=K0_by hmX hcU 3000 Tryz.func83 (p:=R (iv 2)) (by kernel_rfl) h
theorem dir83_9_2 {R:V→Prop} (h:R (iv 1)):K0G Tryz.prog glX 83 [(chB 1 2),iv 2] R:=K0_by hmX hcU 3000 Tryz.func83 (p:=R (iv 1)) (by kernel_rfl) h
theorem dir83_9_3 {R:V→Prop} (h:R (iv 0)):K0G Tryz.prog glX 83 [(chB 1 2),iv 3] R:=K0_by hmX hcU 3000 Tryz.func83 (p:=R (iv 0)) (by kernel_rfl) h
theorem dir83_9_4 {R:V→Prop} (h:R (iv 5)):K0G Tryz.prog glX 83 [(chB 1 2),iv 4] R:=K0_by hmX hcU 3000 Tryz.func83 (p:=R (iv 5)) (by kernel_rfl) h
theorem dir83_9_5 {R:V→Prop} (h:R (iv 4)):K0G Tryz.prog glX 83 [(chB 1 2),iv 5] R:=K0_by hmX hcU 3000 Tryz.func83 (p:=R (iv 4)) (by kernel_rfl) h
theorem dir83_10_0 {R:V→Prop} (h:R (iv 1)):K0G Tryz.prog glX 83 [(chB 2 2),iv 0] R:=K0_by hmX hcU 3000 Tryz.func83 (p:=R (iv 1)) (by kernel_rfl) h
theorem dir83_10_1 {R:V→Prop} (h:R (iv 0)):K0G Tryz.prog glX 83 [(chB 2 2),iv 1] R:=K0_by hmX hcU 3000 Tryz.func83 (p:=R (iv 0)) (by kernel_rfl) h
theorem dir83_10_2 {R:V→Prop} (h:R (iv 2)):K0G Tryz.prog glX 83 [(chB 2 2),iv 2] R:=K0_by hmX hcU 3000 Tryz.func83 (p:=R (iv 2)) (by kernel_rfl) h
theorem dir83_10_3 {R:V→Prop} (h:R (iv 3)):K0G Tryz.prog glX 83 [(chB 2 2),iv 3] R:=K0_by hmX hcU 3000 Tryz.func83 (p:=R (iv 3)) (by kernel_rfl) h
theorem dir83_10_4 {R:V→Prop} (h:R (iv 5)):K0G Tryz.prog glX 83 [(chB 2 2),iv 4] R:=K0_by hmX hcU 3000 Tryz.func83 (p:=R (iv 5)) (by kernel_rfl) h
theorem dir83_10_5 {R:V→Prop} (h:R (iv 4)):K0G Tryz.prog glX 83 [(chB 2 2),iv 5] R:=K0_by hmX hcU 3000 Tryz.func83 (p:=R (iv 4)) (by kernel_rfl) h
theorem dir83_11_0 {R:V→Prop} (h:R (iv 2)):K0G Tryz.prog glX 83 [(chB 3 2),iv 0] R:=K0_by hmX hcU 3000 Tryz.func83 (p:=R (iv 2)) (by kernel_rfl) h
theorem dir83_11_1 {R:V→Prop} (h:R (iv 3)):K0G Tryz.prog glX 83 [(chB 3 2),iv 1] R:=K0_by hmX hcU 3000 Tryz.func83 (p:=R (iv 3)) (by kernel_rfl) h
theorem dir83_11_2 {R:V→Prop} (h:R (iv 0)):K0G Tryz.prog glX 83 [(chB 3 2),iv 2] R:=K0_by hmX hcU 3000 Tryz.func83 (p:=R (iv 0)) (by kernel_rfl) h
theorem dir83_11_3 {R:V→Prop} (h:R (iv 1)):K0G Tryz.prog glX 83 [(chB 3 2),iv 3] R:=K0_by hmX hcU 3000 Tryz.func83 (p:=R (iv 1)) (by kernel_rfl) h
theorem dir83_11_4 {R:V→Prop} (h:R (iv 5)):K0G Tryz.prog glX 83 [(chB 3 2),iv 4] R:=K0_by hmX hcU 3000 Tryz.func83 (p:=R (iv 5)) (by kernel_rfl) h
theorem dir83_11_5 {R:V→Prop} (h:R (iv 4)):K0G Tryz.prog glX 83 [(chB 3 2),iv 5] R:=K0_by hmX hcU 3000 Tryz.func83 (p:=R (iv 4)) (by kernel_rfl) h
theorem dir83_12_0 {R:V→Prop} (h:R (iv 0)):K0G Tryz.prog glX 83 [(chB 0 3),iv 0] R:=K0_by hmX hcU 3000 Tryz.func83 (p:=R (iv 0)) (by kernel_rfl) h
theorem dir83_12_1 {R:V→Prop} (h:R (iv 1)):K0G Tryz.prog glX 83 [(chB 0 3),iv 1] R:=K0_by hmX hcU 3000 Tryz.func83 (p:=R (iv 1)) (by kernel_rfl) h
theorem dir83_12_2 {R:V→Prop} (h:R (iv 5)):K0G Tryz.prog glX 83 [(chB 0 3),iv 2] R:=K0_by hmX hcU 3000 Tryz.func83 (p:=R (iv 5)) (by kernel_rfl) h
theorem dir83_12_3 {R:V→Prop} (h:R (iv 4)):K0G Tryz.prog glX 83 [(chB 0 3),iv 3] R:=K0_by hmX hcU 3000 Tryz.func83 (p:=R (iv 4)) (by kernel_rfl) h
theorem dir83_12_4 {R:V→Prop} (h:R (iv 2)):K0G Tryz.prog glX 83 [(chB 0 3),iv 4] R:=K0_by hmX hcU 3000 Tryz.func83 (p:=R (iv 2)) (by kernel_rfl) h
theorem dir83_12_5 {R:V→Prop} (h:R (iv 3)):K0G Tryz.prog glX 83 [(chB 0 3),iv 5] R:=K0_by hmX hcU 3000 Tryz.func83 (p:=R (iv 3)) (by kernel_rfl) h
theorem dir83_13_0 {R:V→Prop} (h:R (iv 5)):K0G Tryz.prog glX 83 [(chB 1 3),iv 0] R:=K0_by hmX hcU 3000 Tryz.func83 (p:=R (iv 5)) (by kernel_rfl) h
theorem dir83_13_1 {R:V→Prop} (h:R (iv 4)):K0G Tryz.prog glX 83 [(chB 1 3),iv 1] R:=K0_by hmX hcU 3000 Tryz.func83 (p:=R (iv 4)) (by kernel_rfl) h
theorem dir83_13_2 {R:V→Prop} (h:R (iv 1)):K0G Tryz.prog glX 83 [(chB 1 3),iv 2] R:=K0_by hmX hcU 3000 Tryz.func83 (p:=R (iv 1)) (by kernel_rfl) h
theorem dir83_13_3 {R:V→Prop} (h:R (iv 0)):K0G Tryz.prog glX 83 [(chB 1 3),iv 3] R:=K0_by hmX hcU 3000 Tryz.func83 (p:=R (iv 0)) (by kernel_rfl) h
theorem dir83_13_4 {R:V→Prop} (h:R (iv 2)):K0G Tryz.prog glX 83 [(chB 1 3),iv 4] R:=K0_by hmX hcU 3000 Tryz.func83 (p:=R (iv 2)) (by kernel_rfl) h
theorem dir83_13_5 {R:V→Prop} (h:R (iv 3)):K0G Tryz.prog glX 83 [(chB 1 3),iv 5] R:=K0_by hmX hcU 3000 Tryz.func83 (p:=R (iv 3)) (by kernel_rfl) h
theorem dir83_14_0 {R:V→Prop} (h:R (iv 1)):K0G Tryz.prog glX 83 [(chB 2 3),iv 0] R:=K0_by hmX hcU 3000 Tryz.func83 (p:=R (iv 1)) (by kernel_rfl) h
theorem dir83_14_1 {R:V→Prop} (h:R (iv 0)):K0G Tryz.prog glX 83 [(chB 2 3),iv 1] R:=K0_by hmX hcU 3000 Tryz.func83 (p:=R (iv 0)) (by kernel_rfl) h
theorem dir83_14_2 {R:V→Prop} (h:R (iv 4)):K0G Tryz.prog glX 83 [(chB 2 3),iv 2] R:=K0_by hmX hcU 3000 Tryz.func83 (p:=R (iv 4)) (by kernel_rfl) h
theorem dir83_14_3 {R:V→Prop} (h:R (iv 5)):K0G Tryz.prog glX 83 [(chB 2 3),iv 3] R:=K0_by hmX hcU 3000 Tryz.func83 (p:=R (iv 5)) (by kernel_rfl) h
theorem dir83_14_4 {R:V→Prop} (h:R (iv 2)):K0G Tryz.prog glX 83 [(chB 2 3),iv 4] R:=K0_by hmX hcU 3000 Tryz.func83 (p:=R (iv 2)) (by kernel_rfl) h
theorem dir83_14_5 {R:V→Prop} (h:R (iv 3)):K0G Tryz.prog glX 83 [(chB 2 3),iv 5] R:=K0_by hmX hcU 3000 Tryz.func83 (p:=R (iv 3)) (by kernel_rfl) h
theorem dir83_15_0 {R:V→Prop} (h:R (iv 4)):K0G Tryz.prog glX 83 [(chB 3 3),iv 0] R:=K0_by hmX hcU 3000 Tryz.func83 (p:=R (iv 4)) (by kernel_rfl) h
theorem dir83_15_1 {R:V→Prop} (h:R (iv 5)):K0G Tryz.prog glX 83 [(chB 3 3),iv 1] R:=K0_by hmX hcU 3000 Tryz.func83 (p:=R (iv 5)) (by kernel_rfl) h
theorem dir83_15_2 {R:V→Prop} (h:R (iv 0)):K0G Tryz.prog glX 83 [(chB 3 3),iv 2] R:=K0_by hmX hcU 3000 Tryz.func83 (p:=R (iv 0)) (by kernel_rfl) h
theorem dir83_15_3 {R:V→Prop} (h:R (iv 1)):K0G Tryz.prog glX 83 [(chB 3 3),iv 3] R:=K0_by hmX hcU 3000 Tryz.func83 (p:=R (iv 1)) (by kernel_rfl) h
theorem dir83_15_4 {R:V→Prop} (h:R (iv 2)):K0G Tryz.prog glX 83 [(chB 3 3),iv 4] R:=K0_by hmX hcU 3000 Tryz.func83 (p:=R (iv 2)) (by kernel_rfl) h
theorem dir83_15_5 {R:V→Prop} (h:R (iv 3)):K0G Tryz.prog glX 83 [(chB 3 3),iv 5] R:=K0_by hmX hcU 3000 Tryz.func83 (p:=R (iv 3)) (by kernel_rfl) h
theorem dir83_16_0 {R:V→Prop} (h:R (iv 2)):K0G Tryz.prog glX 83 [(chC 0 1),iv 0] R:=K0_by hmX hcU 3000 Tryz.func83 (p:=R (iv 2)) (by kernel_rfl) h
theorem dir83_16_1 {R:V→Prop} (h:R (iv 3)):K0G Tryz.prog glX 83 [(chC 0 1),iv 1] R:=K0_by hmX hcU 3000 Tryz.func83 (p:=R (iv 3)) (by kernel_rfl) h
theorem dir83_16_2 {R:V→Prop} (h:R (iv 4)):K0G Tryz.prog glX 83 [(chC 0 1),iv 2] R:=K0_by hmX hcU 3000 Tryz.func83 (p:=R (iv 4)) (by kernel_rfl) h
theorem dir83_16_3 {R:V→Prop} (h:R (iv 5)):K0G Tryz.prog glX 83 [(chC 0 1),iv 3] R:=K0_by hmX hcU 3000 Tryz.func83 (p:=R (iv 5)) (by kernel_rfl) h
theorem dir83_16_4 {R:V→Prop} (h:R (iv 0)):K0G Tryz.prog glX 83 [(chC 0 1),iv 4] R:=K0_by hmX hcU 3000 Tryz.func83 (p:=R (iv 0)) (by kernel_rfl) h
theorem dir83_16_5 {R:V→Prop} (h:R (iv 1)):K0G Tryz.prog glX 83 [(chC 0 1),iv 5] R:=K0_by hmX hcU 3000 Tryz.func83 (p:=R (iv 1)) (by kernel_rfl) h
theorem dir83_17_0 {R:V→Prop} (h:R (iv 4)):K0G Tryz.prog glX 83 [(chC 1 1),iv 0] R:=K0_by hmX hcU 3000 Tryz.func83 (p:=R (iv 4)) (by kernel_rfl) h
theorem dir83_17_1 {R:V→Prop} (h:R (iv 5)):K0G Tryz.prog glX 83 [(chC 1 1),iv 1] R:=K0_by hmX hcU 3000 Tryz.func83 (p:=R (iv 5)) (by kernel_rfl) h
theorem dir83_17_2 {R:V→Prop} (h:R (iv 3)):K0G Tryz.prog glX 83 [(chC 1 1),iv 2] R:=K0_by hmX hcU 3000 Tryz.func83 (p:=R (iv 3)) (by kernel_rfl) h
theorem dir83_17_3 {R:V→Prop} (h:R (iv 2)):K0G Tryz.prog glX 83 [(chC 1 1),iv 3] R:=K0_by hmX hcU 3000 Tryz.func83 (p:=R (iv 2)) (by kernel_rfl) h
theorem dir83_17_4 {R:V→Prop} (h:R (iv 0)):K0G Tryz.prog glX 83 [(chC 1 1),iv 4] R:=K0_by hmX hcU 3000 Tryz.func83 (p:=R (iv 0)) (by kernel_rfl) h
theorem dir83_17_5 {R:V→Prop} (h:R (iv 1)):K0G Tryz.prog glX 83 [(chC 1 1),iv 5] R:=K0_by hmX hcU 3000 Tryz.func83 (p:=R (iv 1)) (by kernel_rfl) h
theorem dir83_18_0 {R:V→Prop} (h:R (iv 3)):K0G Tryz.prog glX 83 [(chC 2 1),iv 0] R:=K0_by hmX hcU 3000 Tryz.func83 (p:=R (iv 3)) (by kernel_rfl) h
theorem dir83_18_1 {R:V→Prop} (h:R (iv 2)):K0G Tryz.prog glX 83 [(chC 2 1),iv 1] R:=K0_by hmX hcU 3000 Tryz.func83 (p:=R (iv 2)) (by kernel_rfl) h
theorem dir83_18_2 {R:V→Prop} (h:R (iv 5)):K0G Tryz.prog glX 83 [(chC 2 1),iv 2] R:=K0_by hmX hcU 3000 Tryz.func83 (p:=R (iv 5)) (by kernel_rfl) h
theorem dir83_18_3 {R:V→Prop} (h:R (iv 4)):K0G Tryz.prog glX 83 [(chC 2 1),iv 3] R:=K0_by hmX hcU 3000 Tryz.func83 (p:=R (iv 4)) (by kernel_rfl) h
theorem dir83_18_4 {R:V→Prop} (h:R (iv 0)):K0G Tryz.prog glX 83 [(chC 2 1),iv 4] R:=K0_by hmX hcU 3000 Tryz.func83 (p:=R (iv 0)) (by kernel_rfl) h
theorem dir83_18_5 {R:V→Prop} (h:R (iv 1)):K0G Tryz.prog glX 83 [(chC 2 1),iv 5] R:=K0_by hmX hcU 3000 Tryz.func83 (p:=R (iv 1)) (by kernel_rfl) h
theorem dir83_19_0 {R:V→Prop} (h:R (iv 5)):K0G Tryz.prog glX 83 [(chC 3 1),iv 0] R:=K0_by hmX hcU 3000 Tryz.func83 (p:=R (iv 5)) (by kernel_rfl) h
theorem dir83_19_1 {R:V→Prop} (h:R (iv 4)):K0G Tryz.prog glX 83 [(chC 3 1),iv 1] R:=K0_by hmX hcU 3000 Tryz.func83 (p:=R (iv 4)) (by kernel_rfl) h
theorem dir83_19_2 {R:V→Prop} (h:R (iv 2)):K0G Tryz.prog glX 83 [(chC 3 1),iv 2] R:=K0_by hmX hcU 3000 Tryz.func83 (p:=R (iv 2)) (by kernel_rfl) h
theorem dir83_19_3 {R:V→Prop} (h:R (iv 3)):K0G Tryz.prog glX 83 [(chC 3 1),iv 3] R:=K0_by hmX hcU 3000 Tryz.func83 (p:=R (iv 3)) (by kernel_rfl) h
theorem dir83_19_4 {R:V→Prop} (h:R (iv 0)):K0G Tryz.prog glX 83 [(chC 3 1),iv 4] R:=K0_by hmX hcU 3000 Tryz.func83 (p:=R (iv 0)) (by kernel_rfl) h
theorem dir83_19_5 {R:V→Prop} (h:R (iv 1)):K0G Tryz.prog glX 83 [(chC 3 1),iv 5] R:=K0_by hmX hcU 3000 Tryz.func83 (p:=R (iv 1)) (by kernel_rfl) h
theorem dir83_20_0 {R:V→Prop} (h:R (iv 3)):K0G Tryz.prog glX 83 [(chC 0 3),iv 0] R:=K0_by hmX hcU 3000 Tryz.func83 (p:=R (iv 3)) (by kernel_rfl) h
theorem dir83_20_1 {R:V→Prop} (h:R (iv 2)):K0G Tryz.prog glX 83 [(chC 0 3),iv 1] R:=K0_by hmX hcU 3000 Tryz.func83 (p:=R (iv 2)) (by kernel_rfl) h
theorem dir83_20_2 {R:V→Prop} (h:R (iv 4)):K0G Tryz.prog glX 83 [(chC 0 3),iv 2] R:=K0_by hmX hcU 3000 Tryz.func83 (p:=R (iv 4)) (by kernel_rfl) h
theorem dir83_20_3 {R:V→Prop} (h:R (iv 5)):K0G Tryz.prog glX 83 [(chC 0 3),iv 3] R:=K0_by hmX hcU 3000 Tryz.func83 (p:=R (iv 5)) (by kernel_rfl) h
theorem dir83_20_4 {R:V→Prop} (h:R (iv 1)):K0G Tryz.prog glX 83 [(chC 0 3),iv 4] R:=K0_by hmX hcU 3000 Tryz.func83 (p:=R (iv 1)) (by kernel_rfl) h
theorem dir83_20_5 {R:V→Prop} (h:R (iv 0)):K0G Tryz.prog glX 83 [(chC 0 3),iv 5] R:=K0_by hmX hcU 3000 Tryz.func83 (p:=R (iv 0)) (by kernel_rfl) h
theorem dir83_21_0 {R:V→Prop} (h:R (iv 4)):K0G Tryz.prog glX 83 [(chC 1 3),iv 0] R:=K0_by hmX hcU 3000 Tryz.func83 (p:=R (iv 4)) (by kernel_rfl) h
theorem dir83_21_1 {R:V→Prop} (h:R (iv 5)):K0G Tryz.prog glX 83 [(chC 1 3),iv 1] R:=K0_by hmX hcU 3000 Tryz.func83 (p:=R (iv 5)) (by kernel_rfl) h
theorem dir83_21_2 {R:V→Prop} (h:R (iv 2)):K0G Tryz.prog glX 83 [(chC 1 3),iv 2] R:=K0_by hmX hcU 3000 Tryz.func83 (p:=R (iv 2)) (by kernel_rfl) h
theorem dir83_21_3 {R:V→Prop} (h:R (iv 3)):K0G Tryz.prog glX 83 [(chC 1 3),iv 3] R:=K0_by hmX hcU 3000 Tryz.func83 (p:=R (iv 3)) (by kernel_rfl) h
theorem dir83_21_4 {R:V→Prop} (h:R (iv 1)):K0G Tryz.prog glX 83 [(chC 1 3),iv 4] R:=K0_by hmX hcU 3000 Tryz.func83 (p:=R (iv 1)) (by kernel_rfl) h
theorem dir83_21_5 {R:V→Prop} (h:R (iv 0)):K0G Tryz.prog glX 83 [(chC 1 3),iv 5] R:=K0_by hmX hcU 3000 Tryz.func83 (p:=R (iv 0)) (by kernel_rfl) h
theorem dir83_22_0 {R:V→Prop} (h:R (iv 2)):K0G Tryz.prog glX 83 [(chC 2 3),iv 0] R:=K0_by hmX hcU 3000 Tryz.func83 (p:=R (iv 2)) (by kernel_rfl) h
theorem dir83_22_1 {R:V→Prop} (h:R (iv 3)):K0G Tryz.prog glX 83 [(chC 2 3),iv 1] R:=K0_by hmX hcU 3000 Tryz.func83 (p:=R (iv 3)) (by kernel_rfl) h
theorem dir83_22_2 {R:V→Prop} (h:R (iv 5)):K0G Tryz.prog glX 83 [(chC 2 3),iv 2] R:=K0_by hmX hcU 3000 Tryz.func83 (p:=R (iv 5)) (by kernel_rfl) h
theorem dir83_22_3 {R:V→Prop} (h:R (iv 4)):K0G Tryz.prog glX 83 [(chC 2 3),iv 3] R:=K0_by hmX hcU 3000 Tryz.func83 (p:=R (iv 4)) (by kernel_rfl) h
theorem dir83_22_4 {R:V→Prop} (h:R (iv 1)):K0G Tryz.prog glX 83 [(chC 2 3),iv 4] R:=K0_by hmX hcU 3000 Tryz.func83 (p:=R (iv 1)) (by kernel_rfl) h
theorem dir83_22_5 {R:V→Prop} (h:R (iv 0)):K0G Tryz.prog glX 83 [(chC 2 3),iv 5] R:=K0_by hmX hcU 3000 Tryz.func83 (p:=R (iv 0)) (by kernel_rfl) h
theorem dir83_23_0 {R:V→Prop} (h:R (iv 5)):K0G Tryz.prog glX 83 [(chC 3 3),iv 0] R:=K0_by hmX hcU 3000 Tryz.func83 (p:=R (iv 5)) (by kernel_rfl) h
theorem dir83_23_1 {R:V→Prop} (h:R (iv 4)):K0G Tryz.prog glX 83 [(chC 3 3),iv 1] R:=K0_by hmX hcU 3000 Tryz.func83 (p:=R (iv 4)) (by kernel_rfl) h
theorem dir83_23_2 {R:V→Prop} (h:R (iv 3)):K0G Tryz.prog glX 83 [(chC 3 3),iv 2] R:=K0_by hmX hcU 3000 Tryz.func83 (p:=R (iv 3)) (by kernel_rfl) h
theorem dir83_23_3 {R:V→Prop} (h:R (iv 2)):K0G Tryz.prog glX 83 [(chC 3 3),iv 3] R:=K0_by hmX hcU 3000 Tryz.func83 (p:=R (iv 2)) (by kernel_rfl) h
theorem dir83_23_4 {R:V→Prop} (h:R (iv 1)):K0G Tryz.prog glX 83 [(chC 3 3),iv 4] R:=K0_by hmX hcU 3000 Tryz.func83 (p:=R (iv 1)) (by kernel_rfl) h
theorem dir83_23_5 {R:V→Prop} (h:R (iv 0)):K0G Tryz.prog glX 83 [(chC 3 3),iv 5] R:=K0_by hmX hcU 3000 Tryz.func83 (p:=R (iv 0)) (by kernel_rfl) h
theorem dir83_0 {R:V→Prop} : ∀ d:Nat,d<6→R (iv (pt 0 (d:Int)))→K0G Tryz.prog glX 83 [(chA 0),iv (d:Int)] R
 | 0,_=>fun h=>dir83_0_0 h
 | 1,_=>fun h=>dir83_0_1 h
 | 2,_=>fun h=>dir83_0_2 h
 | 3,_=>fun h=>dir83_0_3 h
 | 4,_=>fun h=>dir83_0_4 h
 | 5,_=>fun h=>dir83_0_5 h
 | d+6,h=>absurd h (by omega)
theorem dir83_1 {R:V→Prop} : ∀ d:Nat,d<6→R (iv (pt 1 (d:Int)))→K0G Tryz.prog glX 83 [(chA 1),iv (d:Int)] R
 | 0,_=>fun h=>dir83_1_0 h
 | 1,_=>fun h=>dir83_1_1 h
 | 2,_=>fun h=>dir83_1_2 h
 | 3,_=>fun h=>dir83_1_3 h
 | 4,_=>fun h=>dir83_1_4 h
 | 5,_=>fun h=>dir83_1_5 h
 | d+6,h=>absurd h (by omega)
theorem dir83_2 {R:V→Prop} : ∀ d:Nat,d<6→R (iv (pt 2 (d:Int)))→K0G Tryz.prog glX 83 [(chA 2),iv (d:Int)] R
 | 0,_=>fun h=>dir83_2_0 h
 | 1,_=>fun h=>dir83_2_1 h
 | 2,_=>fun h=>dir83_2_2 h
 | 3,_=>fun h=>dir83_2_3 h
 | 4,_=>fun h=>dir83_2_4 h
 | 5,_=>fun h=>dir83_2_5 h
 | d+6,h=>absurd h (by omega)
theorem dir83_3 {R:V→Prop} : ∀ d:Nat,d<6→R (iv (pt 3 (d:Int)))→K0G Tryz.prog glX 83 [(chA 3),iv (d:Int)] R
 | 0,_=>fun h=>dir83_3_0 h
 | 1,_=>fun h=>dir83_3_1 h
 | 2,_=>fun h=>dir83_3_2 h
 | 3,_=>fun h=>dir83_3_3 h
 | 4,_=>fun h=>dir83_3_4 h
 | 5,_=>fun h=>dir83_3_5 h
 | d+6,h=>absurd h (by omega)
theorem dir83_4 {R:V→Prop} : ∀ d:Nat,d<6→R (iv (pt 4 (d:Int)))→K0G Tryz.prog glX 83 [(chB 0 1),iv (d:Int)] R
 | 0,_=>fun h=>dir83_4_0 h
 | 1,_=>fun h=>dir83_4_1 h
 | 2,_=>fun h=>dir83_4_2 h
 | 3,_=>fun h=>dir83_4_3 h
 | 4,_=>fun h=>dir83_4_4 h
 | 5,_=>fun h=>dir83_4_5 h
 | d+6,h=>absurd h (by omega)
theorem dir83_5 {R:V→Prop} : ∀ d:Nat,d<6→R (iv (pt 5 (d:Int)))→K0G Tryz.prog glX 83 [(chB 1 1),iv (d:Int)] R
 | 0,_=>fun h=>dir83_5_0 h
 | 1,_=>fun h=>dir83_5_1 h
 | 2,_=>fun h=>dir83_5_2 h
 | 3,_=>fun h=>dir83_5_3 h
 | 4,_=>fun h=>dir83_5_4 h
 | 5,_=>fun h=>dir83_5_5 h
 | d+6,h=>absurd h (by omega)
theorem dir83_6 {R:V→Prop} : ∀ d:Nat,d<6→R (iv (pt 6 (d:Int)))→K0G Tryz.prog glX 83 [(chB 2 1),iv (d:Int)] R
 | 0,_=>fun h=>dir83_6_0 h
 | 1,_=>fun h=>dir83_6_1 h
 | 2,_=>fun h=>dir83_6_2 h
 | 3,_=>fun h=>dir83_6_3 h
 | 4,_=>fun h=>dir83_6_4 h
 | 5,_=>fun h=>dir83_6_5 h
 | d+6,h=>absurd h (by omega)
theorem dir83_7 {R:V→Prop} : ∀ d:Nat,d<6→R (iv (pt 7 (d:Int)))→K0G Tryz.prog glX 83 [(chB 3 1),iv (d:Int)] R
 | 0,_=>fun h=>dir83_7_0 h
 | 1,_=>fun h=>dir83_7_1 h
 | 2,_=>fun h=>dir83_7_2 h
 | 3,_=>fun h=>dir83_7_3 h
 | 4,_=>fun h=>dir83_7_4 h
 | 5,_=>fun h=>dir83_7_5 h
 | d+6,h=>absurd h (by omega)
theorem dir83_8 {R:V→Prop} : ∀ d:Nat,d<6→R (iv (pt 8 (d:Int)))→K0G Tryz.prog glX 83 [(chB 0 2),iv (d:Int)] R
 | 0,_=>fun h=>dir83_8_0 h
 | 1,_=>fun h=>dir83_8_1 h
 | 2,_=>fun h=>dir83_8_2 h
 | 3,_=>fun h=>dir83_8_3 h
 | 4,_=>fun h=>dir83_8_4 h
 | 5,_=>fun h=>dir83_8_5 h
 | d+6,h=>absurd h (by omega)
theorem dir83_9 {R:V→Prop} : ∀ d:Nat,d<6→R (iv (pt 9 (d:Int)))→K0G Tryz.prog glX 83 [(chB 1 2),iv (d:Int)] R
 | 0,_=>fun h=>dir83_9_0 h
 | 1,_=>fun h=>dir83_9_1 h
 | 2,_=>fun h=>dir83_9_2 h
 | 3,_=>fun h=>dir83_9_3 h
 | 4,_=>fun h=>dir83_9_4 h
 | 5,_=>fun h=>dir83_9_5 h
 | d+6,h=>absurd h (by omega)
theorem dir83_10 {R:V→Prop} : ∀ d:Nat,d<6→R (iv (pt 10 (d:Int)))→K0G Tryz.prog glX 83 [(chB 2 2),iv (d:Int)] R
 | 0,_=>fun h=>dir83_10_0 h
 | 1,_=>fun h=>dir83_10_1 h
 | 2,_=>fun h=>dir83_10_2 h
 | 3,_=>fun h=>dir83_10_3 h
 | 4,_=>fun h=>dir83_10_4 h
 | 5,_=>fun h=>dir83_10_5 h
 | d+6,h=>absurd h (by omega)
theorem dir83_11 {R:V→Prop} : ∀ d:Nat,d<6→R (iv (pt 11 (d:Int)))→K0G Tryz.prog glX 83 [(chB 3 2),iv (d:Int)] R
 | 0,_=>fun h=>dir83_11_0 h
 | 1,_=>fun h=>dir83_11_1 h
 | 2,_=>fun h=>dir83_11_2 h
 | 3,_=>fun h=>dir83_11_3 h
 | 4,_=>fun h=>dir83_11_4 h
 | 5,_=>fun h=>dir83_11_5 h
 | d+6,h=>absurd h (by omega)
theorem dir83_12 {R:V→Prop} : ∀ d:Nat,d<6→R (iv (pt 12 (d:Int)))→K0G Tryz.prog glX 83 [(chB 0 3),iv (d:Int)] R
 | 0,_=>fun h=>dir83_12_0 h
 | 1,_=>fun h=>dir83_12_1 h
 | 2,_=>fun h=>dir83_12_2 h
 | 3,_=>fun h=>dir83_12_3 h
 | 4,_=>fun h=>dir83_12_4 h
 | 5,_=>fun h=>dir83_12_5 h
 | d+6,h=>absurd h (by omega)
theorem dir83_13 {R:V→Prop} : ∀ d:Nat,d<6→R (iv (pt 13 (d:Int)))→K0G Tryz.prog glX 83 [(chB 1 3),iv (d:Int)] R
 | 0,_=>fun h=>dir83_13_0 h
 | 1,_=>fun h=>dir83_13_1 h
 | 2,_=>fun h=>dir83_13_2 h
 | 3,_=>fun h=>dir83_13_3 h
 | 4,_=>fun h=>dir83_13_4 h
 | 5,_=>fun h=>dir83_13_5 h
 | d+6,h=>absurd h (by omega)
theorem dir83_14 {R:V→Prop} : ∀ d:Nat,d<6→R (iv (pt 14 (d:Int)))→K0G Tryz.prog glX 83 [(chB 2 3),iv (d:Int)] R
 | 0,_=>fun h=>dir83_14_0 h
 | 1,_=>fun h=>dir83_14_1 h
 | 2,_=>fun h=>dir83_14_2 h
 | 3,_=>fun h=>dir83_14_3 h
 | 4,_=>fun h=>dir83_14_4 h
 | 5,_=>fun h=>dir83_14_5 h
 | d+6,h=>absurd h (by omega)
theorem dir83_15 {R:V→Prop} : ∀ d:Nat,d<6→R (iv (pt 15 (d:Int)))→K0G Tryz.prog glX 83 [(chB 3 3),iv (d:Int)] R
 | 0,_=>fun h=>dir83_15_0 h
 | 1,_=>fun h=>dir83_15_1 h
 | 2,_=>fun h=>dir83_15_2 h
 | 3,_=>fun h=>dir83_15_3 h
 | 4,_=>fun h=>dir83_15_4 h
 | 5,_=>fun h=>dir83_15_5 h
 | d+6,h=>absurd h (by omega)
theorem dir83_16 {R:V→Prop} : ∀ d:Nat,d<6→R (iv (pt 16 (d:Int)))→K0G Tryz.prog glX 83 [(chC 0 1),iv (d:Int)] R
 | 0,_=>fun h=>dir83_16_0 h
 | 1,_=>fun h=>dir83_16_1 h
 | 2,_=>fun h=>dir83_16_2 h
 | 3,_=>fun h=>dir83_16_3 h
 | 4,_=>fun h=>dir83_16_4 h
 | 5,_=>fun h=>dir83_16_5 h
 | d+6,h=>absurd h (by omega)
theorem dir83_17 {R:V→Prop} : ∀ d:Nat,d<6→R (iv (pt 17 (d:Int)))→K0G Tryz.prog glX 83 [(chC 1 1),iv (d:Int)] R
 | 0,_=>fun h=>dir83_17_0 h
 | 1,_=>fun h=>dir83_17_1 h
 | 2,_=>fun h=>dir83_17_2 h
 | 3,_=>fun h=>dir83_17_3 h
 | 4,_=>fun h=>dir83_17_4 h
 | 5,_=>fun h=>dir83_17_5 h
 | d+6,h=>absurd h (by omega)
theorem dir83_18 {R:V→Prop} : ∀ d:Nat,d<6→R (iv (pt 18 (d:Int)))→K0G Tryz.prog glX 83 [(chC 2 1),iv (d:Int)] R
 | 0,_=>fun h=>dir83_18_0 h
 | 1,_=>fun h=>dir83_18_1 h
 | 2,_=>fun h=>dir83_18_2 h
 | 3,_=>fun h=>dir83_18_3 h
 | 4,_=>fun h=>dir83_18_4 h
 | 5,_=>fun h=>dir83_18_5 h
 | d+6,h=>absurd h (by omega)
theorem dir83_19 {R:V→Prop} : ∀ d:Nat,d<6→R (iv (pt 19 (d:Int)))→K0G Tryz.prog glX 83 [(chC 3 1),iv (d:Int)] R
 | 0,_=>fun h=>dir83_19_0 h
 | 1,_=>fun h=>dir83_19_1 h
 | 2,_=>fun h=>dir83_19_2 h
 | 3,_=>fun h=>dir83_19_3 h
 | 4,_=>fun h=>dir83_19_4 h
 | 5,_=>fun h=>dir83_19_5 h
 | d+6,h=>absurd h (by omega)
theorem dir83_20 {R:V→Prop} : ∀ d:Nat,d<6→R (iv (pt 20 (d:Int)))→K0G Tryz.prog glX 83 [(chC 0 3),iv (d:Int)] R
 | 0,_=>fun h=>dir83_20_0 h
 | 1,_=>fun h=>dir83_20_1 h
 | 2,_=>fun h=>dir83_20_2 h
 | 3,_=>fun h=>dir83_20_3 h
 | 4,_=>fun h=>dir83_20_4 h
 | 5,_=>fun h=>dir83_20_5 h
 | d+6,h=>absurd h (by omega)
theorem dir83_21 {R:V→Prop} : ∀ d:Nat,d<6→R (iv (pt 21 (d:Int)))→K0G Tryz.prog glX 83 [(chC 1 3),iv (d:Int)] R
 | 0,_=>fun h=>dir83_21_0 h
 | 1,_=>fun h=>dir83_21_1 h
 | 2,_=>fun h=>dir83_21_2 h
 | 3,_=>fun h=>dir83_21_3 h
 | 4,_=>fun h=>dir83_21_4 h
 | 5,_=>fun h=>dir83_21_5 h
 | d+6,h=>absurd h (by omega)
theorem dir83_22 {R:V→Prop} : ∀ d:Nat,d<6→R (iv (pt 22 (d:Int)))→K0G Tryz.prog glX 83 [(chC 2 3),iv (d:Int)] R
 | 0,_=>fun h=>dir83_22_0 h
 | 1,_=>fun h=>dir83_22_1 h
 | 2,_=>fun h=>dir83_22_2 h
 | 3,_=>fun h=>dir83_22_3 h
 | 4,_=>fun h=>dir83_22_4 h
 | 5,_=>fun h=>dir83_22_5 h
 | d+6,h=>absurd h (by omega)
theorem dir83_23 {R:V→Prop} : ∀ d:Nat,d<6→R (iv (pt 23 (d:Int)))→K0G Tryz.prog glX 83 [(chC 3 3),iv (d:Int)] R
 | 0,_=>fun h=>dir83_23_0 h
 | 1,_=>fun h=>dir83_23_1 h
 | 2,_=>fun h=>dir83_23_2 h
 | 3,_=>fun h=>dir83_23_3 h
 | 4,_=>fun h=>dir83_23_4 h
 | 5,_=>fun h=>dir83_23_5 h
 | d+6,h=>absurd h (by omega)
theorem dir83 {R:V→Prop} {d:Nat} (hd:d<6) : ∀ n:Nat,n<24→R (iv (pt n (d:Int)))→K0G Tryz.prog glX 83 [ch n,iv (d:Int)] R
 | 0,_=>fun h=>dir83_0 d hd h
 | 1,_=>fun h=>dir83_1 d hd h
 | 2,_=>fun h=>dir83_2 d hd h
 | 3,_=>fun h=>dir83_3 d hd h
 | 4,_=>fun h=>dir83_4 d hd h
 | 5,_=>fun h=>dir83_5 d hd h
 | 6,_=>fun h=>dir83_6 d hd h
 | 7,_=>fun h=>dir83_7 d hd h
 | 8,_=>fun h=>dir83_8 d hd h
 | 9,_=>fun h=>dir83_9 d hd h
 | 10,_=>fun h=>dir83_10 d hd h
 | 11,_=>fun h=>dir83_11 d hd h
 | 12,_=>fun h=>dir83_12 d hd h
 | 13,_=>fun h=>dir83_13 d hd h
 | 14,_=>fun h=>dir83_14 d hd h
 | 15,_=>fun h=>dir83_15 d hd h
 | 16,_=>fun h=>dir83_16 d hd h
 | 17,_=>fun h=>dir83_17 d hd h
 | 18,_=>fun h=>dir83_18 d hd h
 | 19,_=>fun h=>dir83_19 d hd h
 | 20,_=>fun h=>dir83_20 d hd h
 | 21,_=>fun h=>dir83_21 d hd h
 | 22,_=>fun h=>dir83_22 d hd h
 | 23,_=>fun h=>dir83_23 d hd h
 | n+24,h=>absurd h (by omega)
set_option maxRecDepth 100000
def rtP (c:V) (f:FuncId) (args:List V) (us:Us) (v:V) (k:V→Prop):Prop:=bif inN [82] f then sameV v c (k c) else onTup v fun vs=>onNil vs (k (.tup []))
def poP (f:FuncId) (args:List V) (h:Hp) (us:Us):Hp:=bif inN [82] f then h else h.put (.p 0) (.rows (bif inN [129] f then 3 else 5) true (us.getD 0 []))
def moP (f:FuncId):Nat:=bif inN [82,129,104] f then 3 else 0
def kpP:FuncId→Nat→Option (List Tmp):=slotsOf [(95,0,[3,5,6,7,8,26,27,28]),(95,2,[5,6,7,8,47,48,49])]
noncomputable def cfP (c:V):Cfg:={ cfgG Tryz.prog glX moP poP (rtP c) (inN []) kpP with clean:=fun g=>true }
def chAr (k:Int):List V:=[fZ,iv k,fN,iv 0,fN,iv 0]
def chBr (k s:Int):List V:=[fZ,iv k,fX,iv s,fN,iv 0]
def chCr (k j:Int):List V:=[fZ,iv k,fX,iv 1,fZ,iv j]
noncomputable def sh95a (cr:List V) (q:Kd) (by_:Cl) (L:List Cl) (K:List Kn) (i:Nat):St:=⟨mkT [(3,V.ptr (Id.p 0) 0 0),(5,V.ptr (Id.p 1) 0 0),(6,V.ptr (Id.p 2) 0 0),(7,V.ptr (Id.p 3) 0 0),(8,V.ptr (Id.p 4) 0 0),(26,V.lst 3 (cll q.1)),(27,iv ((cll q.1).length:Int)),(28,iv (i:Int))],⟨[(0,O.rows 3 false [kdr q]),(1,O.rows 3 false [clr by_]),(2,O.rows 2 false [[nilS,nilS]]),(3,O.rows 6 false [cr]),(4,O.rows 2 false [[V.sl (Id.p 5) 0 (cll q.1).length,V.sl (Id.p 6) 0 (knl q.2.1).length]]),(5,O.rows 3 true (cll L)),(6,O.rows 5 true (knl K))],7,[]⟩⟩
noncomputable def sh95b (cr:List V) (q:Kd) (by_:Cl) (L:List Cl) (K:List Kn) (i:Nat):St:=⟨mkT [(5,V.ptr (Id.p 0) 0 0),(6,V.ptr (Id.p 1) 0 0),(7,V.ptr (Id.p 2) 0 0),(8,V.ptr (Id.p 3) 0 0),(47,V.lst 5 (knl q.2.1)),(48,iv ((knl q.2.1).length:Int)),(49,iv (i:Int))],⟨[(0,O.rows 3 false [clr by_]),(1,O.rows 2 false [[nilS,nilS]]),(2,O.rows 6 false [cr]),(3,O.rows 2 false [[V.sl (Id.p 4) 0 (cll q.1).length,V.sl (Id.p 5) 0 (knl q.2.1).length]]),(4,O.rows 3 true (cll L)),(5,O.rows 5 true (knl K))],6,[]⟩⟩
noncomputable def cfS:Cfg:=cfgM Tryz.prog glX moZ tyZ (fun _=>true) (fun _ _=>none)
open Go Go.Shelf
def LSc_ren:Go.Shelf.Ren:=⟨fun | 6=>129 | 15=>133 | 14=>145 | 28=>154 | 29=>155 | 20=>166 | 21=>167 | 22=>168 | 23=>169 | 24=>170 | 25=>171 | 26=>172 | 27=>173 | 46=>182 | 47=>175 | 48=>176 | 49=>183 | 50=>184 | 57=>187 | n=>n,fun | 22=>22 | 24=>28 | 25=>158 | 3=>3 | 39=>192 | 0=>0 | 53=>210 | 55=>212 | 4=>4 | 46=>203 | 45=>202 | 50=>207 | 5=>5 | 9=>9 | 66=>224 | 70=>228 | 76=>234 | 77=>235 | n=>n,fun | n=>n⟩
theorem LSc:Go.Proofs.SlLaysF0.n6 Tryz.prog LSc_ren:={
 mixed:=by kernel_rfl
 f6:=⟨Tryz.f129.name,by decide,Tryz.func129.trans (congrArg some (by kernel_rfl))⟩
 f14:=⟨Tryz.f145.name,by decide,Tryz.func145.trans (congrArg some (by kernel_rfl))⟩
 f15:=Tryz.func133.trans (congrArg some (by kernel_rfl))
 f20:=⟨Tryz.f166.name,by decide,Tryz.func166.trans (congrArg some (by kernel_rfl))⟩
 f21:=⟨Tryz.f167.name,by decide,Tryz.func167.trans (congrArg some (by kernel_rfl))⟩
 f22:=⟨Tryz.f168.name,by decide,Tryz.func168.trans (congrArg some (by kernel_rfl))⟩
 f23:=⟨Tryz.f169.name,by decide,Tryz.func169.trans (congrArg some (by kernel_rfl))⟩
 f24:=⟨Tryz.f170.name,by decide,Tryz.func170.trans (congrArg some (by kernel_rfl))⟩
 f25:=⟨Tryz.f171.name,by decide,Tryz.func171.trans (congrArg some (by kernel_rfl))⟩
 f26:=⟨Tryz.f172.name,by decide,Tryz.func172.trans (congrArg some (by kernel_rfl))⟩
 f27:=⟨Tryz.f173.name,by decide,Tryz.func173.trans (congrArg some (by kernel_rfl))⟩
 f28:=Tryz.func154.trans (congrArg some (by kernel_rfl))
 f29:=Tryz.func155.trans (congrArg some (by kernel_rfl))
 f46:=⟨Tryz.f182.name,by decide,Tryz.func182.trans (congrArg some (by kernel_rfl))⟩
 f47:=Tryz.func175.trans (congrArg some (by kernel_rfl))
 f48:=Tryz.func176.trans (congrArg some (by kernel_rfl))
 f49:=⟨Tryz.f183.name,by decide,Tryz.func183.trans (congrArg some (by kernel_rfl))⟩
 f50:=⟨Tryz.f184.name,by decide,Tryz.func184.trans (congrArg some (by kernel_rfl))⟩
 f57:=⟨Tryz.f187.name,by decide,Tryz.func187.trans (congrArg some (by kernel_rfl))⟩
 t0:=Tryz.underlying0
 a0:=Tryz.isAgg0
 z0:=Tryz.sizeOf0
 v0:=Tryz.zeroValue0
 t3:=Tryz.underlying3
 a3:=Tryz.isAgg3
 z3:=Tryz.sizeOf3
 v3:=Tryz.zeroValue3
 t4:=Tryz.underlying4
 a4:=Tryz.isAgg4
 z4:=Tryz.sizeOf4
 v4:=Tryz.zeroValue4
 t5:=Tryz.underlying5
 a5:=Tryz.isAgg5
 z5:=Tryz.sizeOf5
 v5:=Tryz.zeroValue5
 t9:=Tryz.underlying9
 a9:=Tryz.isAgg9
 z9:=Tryz.sizeOf9
 v9:=Tryz.zeroValue9
 t22:=Tryz.underlying22
 a22:=Tryz.isAgg22
 z22:=Tryz.sizeOf22
 v22:=Tryz.zeroValue22
 t25:=Tryz.underlying158
 a25:=Tryz.isAgg158
 z25:=Tryz.sizeOf158
 v25:=Tryz.zeroValue158
 t39:=Tryz.underlying192
 a39:=Tryz.isAgg192
 z39:=Tryz.sizeOf192
 v39:=Tryz.zeroValue192
 t45:=Tryz.underlying202
 a45:=Tryz.isAgg202
 z45:=Tryz.sizeOf202
 v45:=Tryz.zeroValue202
 t46:=Tryz.underlying203
 a46:=Tryz.isAgg203
 z46:=Tryz.sizeOf203
 v46:=Tryz.zeroValue203
 t50:=Tryz.underlying207
 a50:=Tryz.isAgg207
 z50:=Tryz.sizeOf207
 v50:=Tryz.zeroValue207
 t53:=Tryz.underlying210
 a53:=Tryz.isAgg210
 z53:=Tryz.sizeOf210
 v53:=Tryz.zeroValue210
 t55:=Tryz.underlying212
 a55:=Tryz.isAgg212
 z55:=Tryz.sizeOf212
 v55:=Tryz.zeroValue212
 t66:=Tryz.underlying224
 a66:=Tryz.isAgg224
 z66:=Tryz.sizeOf224
 v66:=Tryz.zeroValue224
 t70:=Tryz.underlying228
 a70:=Tryz.isAgg228
 z70:=Tryz.sizeOf228
 v70:=Tryz.zeroValue228
 t76:=Tryz.underlying234
 a76:=Tryz.isAgg234
 z76:=Tryz.sizeOf234
 v76:=Tryz.zeroValue234
 t77:=Tryz.underlying235
 a77:=Tryz.isAgg235
 z77:=Tryz.sizeOf235
 v77:=Tryz.zeroValue235 }
open Go Go.Proofs.YtbionhgjgcpogaaGreatDoor.Clean
set_option maxRecDepth 10000
theorem rtP_ok (c:V) : ∀ (f:FuncId) (args:List V) (us:Us) (v:V) (k:V→Prop),rtP c f args us v k → ∃ v', k v' ∧ ∀ {F:Nat→Prop} {w:World} {ν:Nu} {x:Value},rep F w ν v x→rep F w ν v' x:=by
 intro f args us v k h
 unfold rtP at h
 cases hq:inN [82] f with
 | true=>rw [hq] at h; exact sameV_rep h
 | false =>
  rw [hq] at h
  simp only [cond_false] at h
  unfold onTup at h
  split at h
  ·rename_i cs
   unfold onNil at h
   split at h
   ·exact ⟨_,h,fun h=>h⟩
   ·exact h.elim
  ·exact h.elim
theorem hcP (c:V):(cfP c).ok Tryz.prog:=by
 have h:(cfgG Tryz.prog glX moP poP (rtP c) (inN []) kpP).ok Tryz.prog:=cfgG_ok (rtP_ok c)
 exact ⟨h.1,h.2⟩
theorem hcS:cfS.ok Tryz.prog:=cfgM_ok
theorem K_of_K0d {P:Program} {G:Nat→Option (List V)} {f:FuncId} {args:List V} {h:Hp} {R:V→Prop} (hc:closedL args=true) (hk:K0G P G f args R):K P G f args h (fun b => !b.low h.nxt) fun v h' => h' = h∧R v:=by
 intro ν F w xs hh hG hl
 refine (hk F w xs (fun r hr=>(hh.frz r hr).1) hG (repL_riL _ _ hc hl)).mono fun e' w' he=>?_
 obtain ⟨x,v,F'', rfl,hv,hr,hbl,q1,q2,q3⟩:=he
 obtain ⟨hh', he⟩:=heap_call0 hh hbl q1 q2 q3
 exact ⟨x,v,ν,_,_,rfl,⟨rfl,hv⟩,hh', ri_rep (ν:=ν) _ _ hr,he,fun b y hy _=>⟨hbl.block _ (by obtain ⟨r,s,n⟩:=y; exact hh.own_lt ⟨b,s,n,hy⟩),hy⟩⟩
theorem KM_of_K0 {P:Program} {G:Nat→Option (List V)} {f:FuncId} {args:List V} {h0:Hp} {post:Hp→Us→Hp} {Q:V→Us→Prop} (hc:closedL args=true) (hp:post h0 []=h0) (h:K0G P G f args fun v=>Q v []):KM P G f args h0 post Q:=by
 unfold KM
 intro ν F w xs g1 g2 g3
 refine (K_of_K0d (h:=h0) hc h ν F w xs g1 g2 g3).mono fun e w' ⟨x,v,ν', F', h', z1,⟨z2,z7⟩,z3,z4,z5,z6⟩=>?_
 exact ⟨x,v,ν', F', h', z1,⟨[],by rw [z2,hp],z7⟩,z3,z4,z5,fun b y hb ht=>by cases ht⟩
def encC (x:Cl):List Value:=[.int .i64 x.1,.int .i64 x.2.1,.int .i64 x.2.2]
theorem swoC:Go.Sort.SWO (Go.Proofs.ltOf cmpC) where
 irrefl x:=by unfold Go.Proofs.ltOf; exact decide_eq_false (fun h=>Bef.irr _ (cmpC_lt.1 h))
 trans x y z h1 h2:=by
  unfold Go.Proofs.ltOf at *
  exact decide_eq_true (cmpC_lt.2 (Bef.tr _ _ _ (cmpC_lt.1 (of_decide_eq_true h1)) (cmpC_lt.1 (of_decide_eq_true h2))))
 ntrans x y z h1 h2:=by
  unfold Go.Proofs.ltOf at *
  have h1 : ¬ Bef x y:=fun h=>(of_decide_eq_false h1) (cmpC_lt.2 h)
  have h2 : ¬ Bef y z:=fun h=>(of_decide_eq_false h2) (cmpC_lt.2 h)
  exact decide_eq_false (fun h=>by have h3:=cmpC_lt.1 h; unfold Bef at *; omega)
instance (a b:Cl):Decidable (Bef a b):=by unfold Bef; infer_instance
instance (a b:Kn):Decidable (BefK a b):=by unfold BefK; infer_instance
def sortC (l:List Cl):List Cl:=l.mergeSort fun a b => !decide (Bef b a)
theorem sortC_perm (l:List Cl):(sortC l).Perm l:=List.mergeSort_perm _ _
theorem sortC_srt (l:List Cl):(sortC l).Pairwise fun a b => ¬ Bef b a:=by
 refine (List.pairwise_mergeSort (le:=fun a b => !decide (Bef b a)) (fun a b c h1 h2=>?_) (fun a b=>?_) l).imp (fun h=>by simpa using h)
 ·simp only [Bool.not_eq_true', decide_eq_false_iff_not] at *
  unfold Bef at *; omega
 ·by_cases h:Bef b a
  ·simp [Bef.asy h]
  ·simp [h]
theorem sortC_uniq {l l' : List Cl} (hp:l'.Perm l) (hs:l'.Pairwise fun a b => ¬ Bef b a):l' = sortC l :=
 List.Perm.eq_of_pairwise (le:=fun a b => ¬ Bef b a) (fun a b _ _ h1 h2=>Bef.tot a b h2 h1) hs (sortC_srt l) (hp.trans (sortC_perm l).symm)
theorem pw_of_get {α:Type} {r:α→α→Prop} {l:List α} (h : ∀ (i j:Nat) (x y:α),i<j→l[i]? = some x→l[j]? = some y→r x y):l.Pairwise r:=by
 rw [List.pairwise_iff_getElem]
 intro i j hi hj hij
 exact h i j _ _ hij (by simp [hi]) (by simp [hj])
theorem sort129 {l:List Cl} (hl:l.length<1000000) {post:Hp→Us→Hp} (hpost : ∀ us,post ⟨[(0,O.rows 3 true (cll l))],1,[]⟩ us=⟨[(0,O.rows 3 true (us.getD 0 []))],1,[]⟩) {Q:V→Us→Prop} (h:Q (.tup []) [cll (sortC l)]):KM Tryz.prog glX 129 [.sl (.p 0) 0 l.length,.fn (.func 89) [] []] ⟨[(0,O.rows 3 true (cll l))],1,[]⟩ post Q:=by
 by_cases h0:l=[]
 ·subst h0
  refine KM_of_WYKp hmX hcS 3000 Tryz.func129 (fun R hR=>?_)
  refine see (p:=R (V.tup []) (Hp.mk [(0,O.rows 3 true [])] 1 [])) (by kernel_rfl) ?_
  have:=hR (.tup []) [cll (sortC [])] h
  rw [hpost,show cll (sortC [])=[] from by simp [sortC,cll]] at this
  exact this
 ·unfold KM
  have key:=K_sort (P:=Tryz.prog) (G:=glX) (ρ:=LSc_ren) LSc (k:=3) Tryz.isAgg28 Tryz.sizeOf28 (enc:=encC) (fun _=>rfl) (fun x v hv=>by simp [encC] at hv; rcases hv with rfl | rfl | rfl <;> rfl) (cf:=cmpC) swoC (g:=89) (caps:=[]) (h:=⟨[(0,O.rows 3 true (cll l))],1,[]⟩) (b:=0) (p:=true) (l:=l) h0 (by omega) rfl
   (enters_of Tryz.func89 (by kernel_rfl) rfl) (fun l' _ x y=>K_of_K0c rfl (cmp89 (a:=x) (b:=y) rfl)) rfl
  intro ν F w xs g1 g2 g3
  refine (key ν F w xs g1 g2 g3).mono fun e w' ⟨x,v,ν', F', h', z1,⟨z2,l', z7,z8,z9⟩,z3,z4,z5,z6⟩=>?_
  have:l' = sortC l:=sortC_uniq z7 (pw_of_get fun i j a b hij ha hb hbef=>z8 i j a b hij ha hb (cmpC_lt.2 hbef))
  subst this
  refine ⟨x,v,ν', F', h', z1,⟨[cll (sortC l)],?_,by rw [z2]; exact h⟩,z3,z4,z5,fun b y hb ht=>by cases ht⟩
  rw [z9,hpost]
  rfl
end Go.Proofs.YtbionhgjgcpogaaGreatDoor
