/- A part of the proof. -/
import Derived.ProofKit
import Derived.Deep.Slices
import Derived.Carry
import Derived.OpenShut
import Derived.MakeChecks
import Derived.FnData
import Derived.Deep.Strs
import Derived.Test.YtbionhgjgcpogaaGreatDoorXN11G7
import Derived.Test.YtbionhgjgcpogaaGreatDoorXN11G14
import Derived.Test.YtbionhgjgcpogaaGreatDoorXN11G15
namespace Go.Proofs.YtbionhgjgcpogaaGreatDoor
open Go Go.Proofs.YtbionhgjgcpogaaGreatDoor.Clean
set_option linter.unusedVariables false
set_option maxRecDepth 100000
theorem tok0 : Facts Tryz.prog glX tb0 := trivial
theorem t0 : KFX fa0 := k0 tok0
theorem tok1 : Facts Tryz.prog glX tb1 := ⟨t0, tok0⟩
theorem t1 : KFX fa1 := k1 tok1
theorem tok2 : Facts Tryz.prog glX tb2 := ⟨t1, tok1⟩
theorem t2 : KFX fa2 := k2 tok2
theorem tok3 : Facts Tryz.prog glX tb3 := ⟨t2, tok2⟩
theorem t3 : KFX fa3 := k3 tok3
theorem tok4 : Facts Tryz.prog glX tb4 := ⟨t3, tok3⟩
theorem t4 : KFX fa4 := k4 tok4
theorem tok5 : Facts Tryz.prog glX tb5 := ⟨t4, tok4⟩
theorem t5 : KFX fa5 := k5 tok5
theorem tok6 : Facts Tryz.prog glX tb6 := ⟨t5, tok5⟩
theorem t6 : KFX fa6 := k6 tok6
theorem tok7 : Facts Tryz.prog glX tb7 := ⟨t6, tok6⟩
theorem t7 : KFX fa7 := k7 tok7
theorem tok8 : Facts Tryz.prog glX tb8 := ⟨t7, tok7⟩
theorem t8 : KFX fa8 := k8 tok8
theorem tok9 : Facts Tryz.prog glX tb9 := ⟨t8, tok8⟩
theorem t9 : KFX fa9 := k9 tok9
theorem tok10 : Facts Tryz.prog glX tb10 := ⟨t9, tok9⟩
theorem t10 : KFX fa10 := k10 tok10
theorem tok11 : Facts Tryz.prog glX tb11 := ⟨t10, tok10⟩
theorem t11 : KFX fa11 := k11 tok11
theorem tok12 : Facts Tryz.prog glX tb12 := ⟨t11, tok11⟩
theorem t12 : KFX fa12 := k12 tok12
theorem tok13 : Facts Tryz.prog glX tb13 := ⟨t12, tok12⟩
theorem t13 : KFX fa13 := k13 tok13
theorem tok14 : Facts Tryz.prog glX tb14 := ⟨t13, tok13⟩
theorem t14 : KFX fa14 := k14 tok14
theorem tok15 : Facts Tryz.prog glX tb15 := ⟨t14, tok14⟩
theorem t15 : KFX fa15 := k15 tok15
theorem tok16 : Facts Tryz.prog glX tb16 := ⟨t15, tok15⟩
theorem t16 : KFX fa16 := k16 tok16
theorem tok17 : Facts Tryz.prog glX tb17 := ⟨t16, tok16⟩
theorem t17 : KFX fa17 := k17 tok17
theorem tok18 : Facts Tryz.prog glX tb18 := ⟨t17, tok17⟩
theorem t18 : KFX fa18 := k18 tok18
theorem tok19 : Facts Tryz.prog glX tb19 := ⟨t18, tok18⟩
theorem t19 : KFX fa19 := k19 tok19
theorem tok20 : Facts Tryz.prog glX tb20 := ⟨t19, tok19⟩
theorem t20 : KFX fa20 := k20 tok20
theorem tok21 : Facts Tryz.prog glX tb21 := ⟨t20, tok20⟩
theorem t21 : KFX fa21 := k21 tok21
theorem tok22 : Facts Tryz.prog glX tb22 := ⟨t21, tok21⟩
theorem t22 : KFX fa22 := k22 tok22
theorem tok23 : Facts Tryz.prog glX tb23 := ⟨t22, tok22⟩
theorem t23 : KFX fa23 := k23 tok23
theorem tok24 : Facts Tryz.prog glX tb24 := ⟨t23, tok23⟩
theorem t24 : KFX fa24 := k24 tok24
theorem tok25 : Facts Tryz.prog glX tb25 := ⟨t24, tok24⟩
theorem t25 : KFX fa25 := k25 tok25
theorem tok26 : Facts Tryz.prog glX tb26 := ⟨t25, tok25⟩
theorem t26 : KFX fa26 := k26 tok26
theorem tok27 : Facts Tryz.prog glX tb27 := ⟨t26, tok26⟩
theorem t27 : KFX fa27 := k27 tok27
theorem tok28 : Facts Tryz.prog glX tb28 := ⟨t27, tok27⟩
theorem t28 : KFX fa28 := k28 tok28
theorem tok29 : Facts Tryz.prog glX tb29 := ⟨t28, tok28⟩
theorem t29 : KFX fa29 := k29 tok29
theorem tok30 : Facts Tryz.prog glX tb30 := ⟨t29, tok29⟩
theorem t30 : KFX fa30 := k30 tok30
theorem tok31 : Facts Tryz.prog glX tb31 := ⟨t30, tok30⟩
theorem t31 : KFX fa31 := k31 tok31
theorem tok32 : Facts Tryz.prog glX tb32 := ⟨t31, tok31⟩
theorem t32 : KFX fa32 := k32 tok32
theorem tok33 : Facts Tryz.prog glX tb33 := ⟨t32, tok32⟩
theorem t33 : KFX fa33 := k33 tok33
theorem tok34 : Facts Tryz.prog glX tb34 := ⟨t33, tok33⟩
theorem t34 : KFX fa34 := k34 tok34
theorem tok35 : Facts Tryz.prog glX tb35 := ⟨t34, tok34⟩
theorem t35 : KFX fa35 := k35 tok35
theorem tok36 : Facts Tryz.prog glX tb36 := ⟨t35, tok35⟩
theorem t36 : KFX fa36 := k36 tok36
theorem tok37 : Facts Tryz.prog glX tb37 := ⟨t36, tok36⟩
theorem t37 : KFX fa37 := k37 tok37
theorem tok38 : Facts Tryz.prog glX tb38 := ⟨t37, tok37⟩
theorem t38 : KFX fa38 := k38 tok38
theorem tok39 : Facts Tryz.prog glX tb39 := ⟨t38, tok38⟩
theorem t39 : KFX fa39 := k39 tok39
end Go.Proofs.YtbionhgjgcpogaaGreatDoor
namespace Go.Proofs.YtbionhgjgcpogaaGreatDoor
open Go Go.Proofs.YtbionhgjgcpogaaGreatDoor.Clean
set_option linter.unusedVariables false
set_option linter.unusedSimpArgs false
set_option maxRecDepth 10000
def AlkP (q : Kd) (t : Nat) (A : Cl) (n : Nat) (d : Cl) : Prop := plc q t A = plc q n d ∧ SameK (knb q t A) (knb q n d)
theorem alike48 {l : List Kd} {x b : Bk} {q : Kd} {t n : Nat} {R : V → Prop} (hx : PutB l x q t) (hb : PutB l b q n) (e1 : x.1 = b.1) (e2 : x.2.2.2 = b.2.2.2) (h : R (bv (dc (AlkP q t x.2.1 n b.2.1)))) : K0G Tryz.prog glX 48 [.lst 3 (kdl l), .agg (bkr x), .agg (bkr b)] R := by
  refine K0_by hmX hcD 3000 Tryz.func48 (p := ifB (x.1 == b.1) (ifB (x.2.2.2 == b.2.2.2) (K0G Tryz.prog glX 59 [V.lst 3 (kdl l), V.agg [iv x.1, iv x.2.1.1, iv x.2.1.2.1, iv x.2.1.2.2, V.raw (Value.int IntKind.u8 x.2.2.1), V.raw (Value.int IntKind.u8 x.2.2.2)]] fun v => onLst v fun s es => K0G Tryz.prog glX 59 [V.lst 3 (kdl l), V.agg [iv b.1, iv b.2.1.1, iv b.2.1.2.1, iv b.2.1.2.2, V.raw (Value.int IntKind.u8 b.2.2.1), V.raw (Value.int IntKind.u8 b.2.2.2)]] fun v => onLst v fun s_1 es_1 => K0G Tryz.prog glX 23 [V.lst s es, V.lst s_1 es_1] fun v => onBool v fun b_1 => ifB b_1 (K0G Tryz.prog glX 60 [V.lst 3 (kdl l), V.agg [iv x.1, iv x.2.1.1, iv x.2.1.2.1, iv x.2.1.2.2, V.raw (Value.int IntKind.u8 x.2.2.1), V.raw (Value.int IntKind.u8 x.2.2.2)]] fun v => onLst v fun s es => K0G Tryz.prog glX 60 [V.lst 3 (kdl l), V.agg [iv b.1, iv b.2.1.1, iv b.2.1.2.1, iv b.2.1.2.2, V.raw (Value.int IntKind.u8 b.2.2.1), V.raw (Value.int IntKind.u8 b.2.2.2)]] fun v => onLst v fun s_2 es_2 => K0G Tryz.prog glX 88 [V.lst s es, V.lst s_2 es_2] fun v => onBool v fun b => R (bv b)) (R (bv false))) (R (bv false))) (R (bv false))) (by kernel_rfl) ?_
  have h30 := hx.put.2.1
  have h60 := hx.put.2.2.2
  refine ifB_t (by simp [e1]) (ifB_t (by simp [e2]) ?_)
  refine placed59 (b := x) hx (onLst_lst (placed59 (b := b) hb (onLst_lst (same23 (by rw [plc_length]; omega) (onBool_bv (ifB_mk (fun e => ?_) (fun e => ?_)))))))
  · refine knobbed60' (b := x) hx (fun s hs => knobbed60' (b := b) hb (fun s' hs' => same88' hs hs' (by rw [knb_length]; omega) (onBool_bv ?_)))
    have : dc (AlkP q t x.2.1 n b.2.1) = dc (SameK (knb q t x.2.1) (knb q n b.2.1)) := dc_iff ⟨fun z => z.2, fun z => ⟨dc_true e, z⟩⟩
    rw [this] at h
    exact h
  · rw [dc_f (fun z => dc_false e z.1)] at h
    exact h
def Sm (q : Kd) (t : Nat) (A : Cl) (n : Nat) (d : Cl) : Prop := plc q t A = plc q n d ∧ (knb q t A).Perm (knb q n d)
theorem alk_sm {q : Kd} {t n : Nat} {A d : Cl} (hK : KnbP q) (ht : t < 24) : AlkP q t A n d ↔ Sm q t A n d :=
  ⟨fun h => ⟨h.1, same_perm (knb_nodup hK ht) h.2⟩, fun h => ⟨h.1, perm_same h.2⟩⟩
theorem like_cg {q : Kd} {t n : Nat} {A d : Cl} (h : Sm q t A n d) (u : Nat) : cAt q u t A = cAt q u n d ∧ (LikeP q u t A ↔ LikeP q u n d) := by
  have e : cAt q u t A = cAt q u n d := by unfold cAt; rw [h.1]
  refine ⟨e, ?_⟩
  unfold LikeP
  rw [e, h.1]
  exact ⟨fun g => ⟨g.1, g.2.1.trans h.2.length_eq, fun x hx => h.2.mem_iff.1 (g.2.2 x hx)⟩, fun g => ⟨g.1, g.2.1.trans h.2.length_eq.symm, fun x hx => h.2.mem_iff.2 (g.2.2 x hx)⟩⟩
def FirstT (q : Kd) (n : Nat) (d : Cl) (t : Nat) : Prop := t < 24 ∧ LikeP q t n d ∧ ∀ u, u < t → ¬ LikeP q u n d
theorem FirstT.uniq {q : Kd} {n t u : Nat} {d : Cl} (h : FirstT q n d t) (g : FirstT q n d u) : t = u := by
  rcases Nat.lt_trichotomy t u with x | x | x
  · exact (g.2.2 t x h.2.1).elim
  · exact x
  · exact (h.2.2 u x g.2.1).elim
theorem FirstT.cg {q : Kd} {t n u : Nat} {A d : Cl} (h : Sm q t A n d) (g : FirstT q t A u) : FirstT q n d u :=
  ⟨g.1, (like_cg h u).2.1 g.2.1, fun v hv x => g.2.2 v hv ((like_cg h v).2.2 x)⟩
theorem norm_val {q : Kd} {n : Nat} {b x : Bk} (h1 : 1 ≤ q.1.length) (hn : n < 24) (hB : ∀ u, Bd 1000 (cAt q u n b.2.1)) (h : NormP q n b x) : ∃ t, FirstT q n b.2.1 t ∧ x = (b.1, cAt q t n b.2.1, (t : Int), b.2.2.2) := by
  rcases h with ⟨t, h2, h3, h4, h5⟩ | ⟨h2, _⟩
  · rcases h5 with ⟨_, e⟩ | ⟨e, _⟩
    · exact ⟨t, ⟨h2, h3, h4⟩, e⟩
    · exact (e (hB t)).elim
  · exact (h2 n hn (like_self h1)).elim
theorem norm_facts {l : List Kd} {q : Kd} {n : Nat} {b x : Bk} (hK : KnbP q) (hP : PutB l b q n) (hb : Bd 1000 b.2.1) (h : NormP q n b x) : ∃ t, t ≤ n ∧ PutB l x q t ∧ Bd 1000 x.2.1 ∧ Sm q t x.2.1 n b.2.1 ∧ x.1 = b.1 ∧ x.2.2.2 = b.2.2.2 := by
  rcases h with ⟨t, h2, h3, h4, h5⟩ | ⟨h2, _⟩
  · rcases h5 with ⟨hB, rfl⟩ | ⟨_, rfl⟩
    · refine ⟨t, ?_, ⟨hP.at_, hP.k0, hP.put, hP.pos, rfl, h2, hB.mono (by omega)⟩, hB, ⟨h3.1, same_perm (knb_nodup hK h2) h3.2⟩, rfl, rfl⟩
      rcases Nat.lt_or_ge n t with g | g
      · exact (h4 n g (like_self hP.pos)).elim
      · exact g
    · exact ⟨n, Nat.le_refl _, hP, hb, ⟨rfl, .refl _⟩, rfl, rfl⟩
  · exact (h2 n hP.t24 (like_self hP.pos)).elim
theorem cAt_bd9 {q : Kd} {t n : Nat} {d : Cl} (hq : PutP q) (h1 : 1 ≤ q.1.length) (hb : Bd 900 d) : Bd 1000 (cAt q t n d) := by
  have g : ∀ c ∈ plc q n d, Bd 915 c := fun c hc => by
    have := (sortC_perm _).mem_iff.1 hc
    obtain ⟨x, hx, rfl⟩ := List.mem_map.1 this
    exact (add_bd (tn_bd ((hq.1 x hx).mono (c := -15) (d := 15) (by omega) (by omega))) hb).mono (by omega)
  exact (sub_bd (g _ (hd_mem (by rw [plc_length]; exact h1))) (plc0_bd hq _ (hd_mem (by rw [plc_length]; exact h1)))).mono (by omega)
theorem law11 {l : List Kd} {b : Bk} {t : Int} {c : Cl} {R : V → Prop} (hlk : ∀ q ∈ l, ∀ x ∈ q.2.1, KnR x) (hb : BkR b) (ht : 0 ≤ t ∧ t ≤ 255) (h : R (bv true)) : K0G Tryz.prog glX 11 [.lst 3 (kdl l), .agg (bkr b), u8 t, .agg (clr c)] R := by
  refine K0_by hmX hcD 3000 Tryz.func11 (p := K0G Tryz.prog glX 37 [] fun v => onBool v fun b_1 => K0G Tryz.prog glX 12 [V.lst 3 (kdl l), V.agg [nilS]] fun v => onBool v fun b_2 => ifB b_2 (R (bv b_1)) (K0G Tryz.prog glX 26 [V.lst 3 (kdl l), V.agg [iv b.1, iv b.2.1.1, iv b.2.1.2.1, iv b.2.1.2.2, V.raw (Value.int IntKind.u8 b.2.2.1), V.raw (Value.int IntKind.u8 b.2.2.2)]] fun v => onTup v fun vs => onCons vs fun u r => onAgg u fun cs => onCons cs fun u r_1 => onIntK IntKind.i64 u fun n => onCons r_1 fun u r_2 => onIntK IntKind.i64 u fun n_1 => onCons r_2 fun u r_3 => onIntK IntKind.i64 u fun n_2 => onCons r_3 fun u r_4 => onIntK IntKind.i64 u fun n_3 => onCons r_4 fun u r_5 => onIntK IntKind.u8 u fun n_4 => onCons r_5 fun u r_6 => onIntK IntKind.u8 u fun n_5 => onNil r_6 (onCons r fun u r => onIntK IntKind.i64 u fun n_6 => onNil r (ifB (n_6 != (0 : Int)) (ifB b_1 (R (bv (n == (0 : Int) && (fun b => (fun b => n_1 == (0 : Int) && b) ((fun b => n_2 == (0 : Int) && b) ((fun b => n_3 == (0 : Int) && b) true)) && b) ((fun b => n_4 == (0 : Int) && b) ((fun b => n_5 == (0 : Int) && b) true))))) (R (bv false))) (ifB (decide (n_4 > b.2.2.1)) (R (bv false)) (K0G Tryz.prog glX 47 [V.lst 3 (kdl l), V.agg [iv n, iv n_1, iv n_2, iv n_3, V.raw (Value.int IntKind.u8 n_4), V.raw (Value.int IntKind.u8 n_5)]] fun v => onBool v fun b_3 => ifB (!b_3) (R (bv false)) (K0G Tryz.prog glX 48 [V.lst 3 (kdl l), V.agg [iv n, iv n_1, iv n_2, iv n_3, V.raw (Value.int IntKind.u8 n_4), V.raw (Value.int IntKind.u8 n_5)], V.agg [iv b.1, iv b.2.1.1, iv b.2.1.2.1, iv b.2.1.2.2, V.raw (Value.int IntKind.u8 b.2.2.1), V.raw (Value.int IntKind.u8 b.2.2.2)]] fun v => onBool v fun b_4 => ifB (!b_4) (R (bv false)) (K0G Tryz.prog glX 26 [V.lst 3 (kdl l), V.agg [iv b.1, iv c.1, iv c.2.1, iv c.2.2, V.raw (Value.int IntKind.u8 t), V.raw (Value.int IntKind.u8 b.2.2.2)]] fun v => onTup v fun vs => onCons vs fun u r => onAgg u fun cs => onCons cs fun u r_7 => onIntK IntKind.i64 u fun n_7 => onCons r_7 fun u r_8 => onIntK IntKind.i64 u fun n_8 => onCons r_8 fun u r_9 => onIntK IntKind.i64 u fun n_9 => onCons r_9 fun u r_10 => onIntK IntKind.i64 u fun n_10 => onCons r_10 fun u r_11 => onIntK IntKind.u8 u fun n_11 => onCons r_11 fun u r_12 => onIntK IntKind.u8 u fun n_12 => onNil r_12 (onCons r fun u r => onIntK IntKind.i64 u fun n_13 => onNil r (ifB (n_13 != (0 : Int)) (ifB b_1 (ifB (n_13 == (0 : Int)) (R (bv true)) (R (bv (n_13 == (11 : Int))))) (R (bv false))) (K0G Tryz.prog glX 49 [V.agg [iv b.2.1.1, iv b.2.1.2.1, iv b.2.1.2.2], iv (-900 : Int), iv (900 : Int)] fun v => onBool v fun b_5 => ifB (!b_5) (ifB b_1 (ifB (n_13 == (0 : Int)) (R (bv true)) (R (bv (n_13 == (11 : Int))))) (R (bv false))) (K0G Tryz.prog glX 49 [V.agg [iv c.1, iv c.2.1, iv c.2.2], iv (-900 : Int), iv (900 : Int)] fun v => onBool v fun b_6 => ifB (!b_6) (ifB b_1 (ifB (n_13 == (0 : Int)) (R (bv true)) (R (bv (n_13 == (11 : Int))))) (R (bv false))) (K0G Tryz.prog glX 26 [V.lst 3 (kdl l), V.agg [iv n, iv n_1, iv n_2, iv n_3, V.raw (Value.int IntKind.u8 n_4), V.raw (Value.int IntKind.u8 n_5)]] fun v => onTup v fun vs => onCons vs fun u r => onAgg u fun cs => onCons cs fun u r_13 => onIntK IntKind.i64 u fun n_14 => onCons r_13 fun u r_14 => onIntK IntKind.i64 u fun n_15 => onCons r_14 fun u r_15 => onIntK IntKind.i64 u fun n_16 => onCons r_15 fun u r_16 => onIntK IntKind.i64 u fun n_17 => onCons r_16 fun u r_17 => onIntK IntKind.u8 u fun n_18 => onCons r_17 fun u r_18 => onIntK IntKind.u8 u fun n_19 => onNil r_18 (onCons r fun u r => onIntK IntKind.i64 u fun n_20 => onNil r (ifB b_1 (ifB (n_20 == (0 : Int)) (ifB (n_14 == n && (fun b => (fun b => n_15 == n_1 && b) ((fun b => n_16 == n_2 && b) ((fun b => n_17 == n_3 && b) true)) && b) ((fun b => n_18 == n_4 && b) ((fun b => n_19 == n_5 && b) true))) (K0G Tryz.prog glX 48 [V.lst 3 (kdl l), V.agg [iv b.1, iv b.2.1.1, iv b.2.1.2.1, iv b.2.1.2.2, V.raw (Value.int IntKind.u8 b.2.2.1), V.raw (Value.int IntKind.u8 b.2.2.2)], V.agg [iv b.1, iv c.1, iv c.2.1, iv c.2.2, V.raw (Value.int IntKind.u8 t), V.raw (Value.int IntKind.u8 b.2.2.2)]] fun v => onBool v fun b => R (bv ((fun b => n == n_7 && b) ((fun b => (fun b => n_1 == n_8 && b) ((fun b => n_2 == n_9 && b) ((fun b => n_3 == n_10 && b) true)) && b) ((fun b => n_4 == n_11 && b) ((fun b => n_5 == n_12 && b) true))) == b))) (R (bv false))) (R (bv false))) (R (bv false))))))))))))))))) (by kernel_rfl) ?_
  refine K0G.mono (show K0G Tryz.prog glX 37 [] fun v => v = bv true from t37) (fun v hv => ?_)
  subst hv
  refine onBool_bv (great12' (onBool_bv (ifB_mk (fun _ => h) (fun c1 => ?_))))
  obtain ⟨hl20, hl⟩ := (GreatP.not (dc_false c1)) hlk
  have hll : (l.length : Int) ≤ 1000000 := by omega
  have low : ∀ e : Int, (e = 0 ∨ e = 11) → ifB true (ifB (e == (0 : Int)) (R (bv true)) (R (bv (e == (11 : Int))))) (R (bv false)) := fun e he => by
    rcases he with rfl | rfl
    · exact ifB_t rfl (ifB_t rfl h)
    · exact ifB_t rfl (ifB_f rfl h)
  refine norm26 (b := b) hl hll hb (fun e he hne => onN (ifB_t (by simp [hne]) (ifB_t rfl h))) (fun h0 q n x hP hN => onN (ifB_f rfl ?_))
  obtain ⟨hK, hB⟩ := h0.ok
  obtain ⟨q', n', hP', hQ, hb1, _⟩ := putb hK hl hB hb
  obtain ⟨rfl, rfl⟩ := hP'.same hP
  obtain ⟨u, hun, hX, hX1, hS, e1, e2⟩ := norm_facts hQ hP hb1 hN
  have hBx : BrickP l.length x := ⟨by rw [e1]; exact hB.1, hX1, by rw [hX.turn]; have := hX.t24; omega, by rw [e2]; exact hB.2.2.2⟩
  have hrx : BkR x := ⟨by rw [hX.turn]; have := hX.t24; omega, by rw [e2]; exact hb.2⟩
  refine ifB_f (by rw [hX.turn, hP.turn]; simp; omega) ?_
  refine brick47 (b := x) hll (onBool_bv (ifB_f (by rw [dc_t hBx]; rfl) ?_))
  refine alike48 (x := x) (b := b) hX hP e1 e2 (onBool_bv (ifB_f (by rw [dc_t ((alk_sm hQ hX.t24).2 hS)]; rfl) ?_))
  refine norm26 (b := (b.1, c, t, b.2.2.2)) hl hll ⟨ht, hb.2⟩ (fun e he hne => onN (ifB_t (by simp [hne]) (low e (.inr ?_)))) (fun h1 q2 m y hP2 hN2 => onN (ifB_f rfl ?_))
  · rcases he with ⟨g, _⟩ | ⟨_, g, _⟩ | ⟨_, _, g⟩ | ⟨_, _, g⟩
    · have := hK.1; omega
    · exact (g hK).elim
    · exact g
    · exact (hne g).elim
  refine near49 (c := b.2.1) (onBool_bv (ifB_mk (fun _ => low 0 (.inl rfl)) (fun c2 => ?_)))
  refine near49 (c := c) (onBool_bv (ifB_mk (fun _ => low 0 (.inl rfl)) (fun c3 => ?_)))
  refine norm26 (b := x) hl hll hrx (fun e he hne => (hne (he.uniq (.inr (.inr (.inr ⟨hK, hBx, rfl⟩))))).elim) (fun h3 q3 u3 z hP3 hN3 => onN ?_)
  obtain ⟨rfl, rfl⟩ := hP3.same hX
  have q2e : q2 = q3 := by
    have a := hP2.at_
    have b' := hP.at_
    simp only at a
    rw [b'] at a
    exact (Option.some.inj a).symm
  subst q2e
  have n2 : Bd 900 b.2.1 := nb c2
  have n3 : Bd 900 c := nb c3
  have cB : ∀ v, Bd 1000 (cAt q2 v n' b.2.1) := fun v => cAt_bd9 hP.put hP.pos n2
  have cC : ∀ v, Bd 1000 (cAt q2 v m c) := fun v => cAt_bd9 hP.put hP.pos n3
  obtain ⟨t1, f1, x1⟩ := norm_val hP.pos hP.t24 cB hN
  obtain ⟨t2, f2, y2⟩ := norm_val (b := (b.1, c, t, b.2.2.2)) hP.pos hP2.t24 cC hN2
  obtain ⟨t3, f3, z3⟩ := norm_val (b := x) hP.pos hP3.t24 (fun v => by rw [(like_cg hS v).1]; exact cB v) hN3
  have t31 : t3 = t1 := (f3.cg hS).uniq f1
  have zx : z = x := by
    rw [z3, (like_cg hS t3).1, t31, e1, e2, ← x1]
  subst zx
  refine ifB_t rfl (ifB_t rfl (ifB_t (by simp) (alike48 (x := b) (b := (b.1, c, t, b.2.2.2)) hP hP2 rfl rfl (onBool_bv ?_))))
  have key : AlkP q2 n' b.2.1 m c ↔ z = y := by
    rw [alk_sm hQ hP.t24]
    constructor
    · intro s
      have e := (f1.cg s).uniq f2
      rw [x1, y2, (like_cg s t1).1, e]
    · intro e
      obtain ⟨u', _, hY, _, hS2, _, _⟩ := norm_facts (b := (b.1, c, t, b.2.2.2)) hQ hP2 (n3.mono (by omega)) hN2
      subst e
      have := (hY.same hX).2
      subst this
      exact ⟨hS.1.symm.trans hS2.1, hS.2.symm.trans hS2.2⟩
  have fin : ∀ w : Bool, (w = true ↔ z = y) → R (bv (w == dc (AlkP q2 n' b.2.1 m c))) := fun w hw => by
    have : (w == dc (AlkP q2 n' b.2.1 m c)) = true := by
      by_cases g : z = y
      · rw [dc_t (key.2 g), hw.2 g]; rfl
      · rw [dc_f (fun k => g (key.1 k)), Bool.eq_false_iff.2 (fun k => g (hw.1 k))]; rfl
    rw [this]
    exact h
  refine fin _ ?_
  obtain ⟨a1, ⟨a2, a3, a4⟩, a5, a6⟩ := z
  obtain ⟨d1, ⟨d2, d3, d4⟩, d5, d6⟩ := y
  simp
end Go.Proofs.YtbionhgjgcpogaaGreatDoor
namespace Go.Proofs.YtbionhgjgcpogaaGreatDoor.Clean
open Go.Deep
set_option linter.unusedSimpArgs false
set_option linter.unusedVariables false
section
variable {H : Type} (enc : TypeId × Value → H) (P : Program) (w : World)
def FW (r : Nat) : Prop := r < w.heap.size
def Opens (t : TypeId) {α : Type} (f : α → List V) (ok : α → Prop) : Prop :=
  ∀ fuel cs x, DataW.trod enc P w 0 (fun _ => true) true fuel t cs = some x → ∃ a, riL (FW w) w (f a) cs ∧ ok a ∧ ∀ u ∈ cs, u.oneCell' = true
def OpensF (total : Nat) (off : Nat) (fs : List Field) {α : Type} (f : α → List V) (ok : α → Prop) : Prop :=
  ∀ n (cs : List Value), cs.length = total → (∀ fd ∈ fs, ∃ x, DataW.trod enc P w 0 (fun _ => true) true n fd.type ((cs.drop fd.offset).take (P.cellsOf fd.type)) = some x) →
    ∃ a, riL (FW w) w (f a) (cs.drop off) ∧ ok a ∧ ∀ u ∈ cs.drop off, u.oneCell' = true
end
section
variable {H : Type} {enc : TypeId × Value → H} {P : Program} {w : World}
theorem riL_append : ∀ {vs us : List V} {xs ys : List Value}, riL (FW w) w vs xs → riL (FW w) w us ys → riL (FW w) w (vs ++ us) (xs ++ ys)
  | [], us, xs, ys, h, k => by simp only [riL] at h; subst h; simpa using k
  | v :: vs, us, xs, ys, h, k => by
    simp only [riL] at h
    obtain ⟨x, zs, rfl, h2, h3⟩ := h
    simp only [List.cons_append, riL]
    exact ⟨x, zs ++ ys, rfl, h2, riL_append h3 k⟩
theorem riL_one {v : V} {x : Value} (h : ri (FW w) w v x) : riL (FW w) w [v] [x] := by simp only [riL]; exact ⟨x, [], rfl, h, rfl⟩
theorem riL_get : ∀ {vs : List V} {xs : List Value}, riL (FW w) w vs xs → ∀ (i : Nat) v, vs[i]? = some v → ∃ x, xs[i]? = some x ∧ ri (FW w) w v x
  | [], xs, h, i, v, hi => by simp at hi
  | u :: vs, xs, h, i, v, hi => by
    simp only [riL] at h
    obtain ⟨x, ys, rfl, h2, h3⟩ := h
    cases i with
    | zero => simp at hi; subst hi; exact ⟨x, rfl, h2⟩
    | succ i => simp at hi; simpa using riL_get h3 i v hi
theorem riL_length : ∀ {vs : List V} {xs : List Value}, riL (FW w) w vs xs → xs.length = vs.length
  | [], xs, h => by simp only [riL] at h; simp [h]
  | v :: vs, xs, h => by simp only [riL] at h; obtain ⟨x, ys, rfl, _, h3⟩ := h; simp [riL_length h3]
theorem opens_int {t : TypeId} {k : IntKind} (ht : P.underlying t = some (.int k)) : Opens enc P w t (fun n : Int => [.raw (.int k n)]) (fun n => (Lit.int k n).wf = true) := by
  intro fuel cs x h
  obtain ⟨n, rfl, _, hw⟩ := DataW.trod_int ht h
  exact ⟨n, riL_one (by simp [ri]), hw, by simp [Value.oneCell']⟩
theorem opens_slice {t e : TypeId} {s : Nat} {α : Type} {f : α → List V} {ok : α → Prop} (ht : P.underlying t = some (.slice e)) (hs : P.cellsOf e = s) (hpos : s ≠ 0) (ho : Opens enc P w e f ok) :
    Opens enc P w t (fun l : List α => [.lst s (l.map f)]) (fun l => l.length ≤ maxLen ∧ ∀ a ∈ l, ok a) := by
  intro fuel cs x h
  rcases open_slice ht h with ⟨rfl, _⟩ | ⟨a, len, cap, m, n, D, Pl, rfl, _, hl, hm, hmm, _, hx⟩
  · exact ⟨[], riL_one (by simp [ri]), by simp, by simp [Value.oneCell']⟩
  · simp only [if_true] at hmm
    subst hmm
    rw [hs] at hx
    have each : ∀ i, i < len → ∃ q : α, (∃ cs', w.cells? 0 (a.add (i * s)) s = some cs' ∧ riL (FW w) w (f q) cs' ∧ ∀ u ∈ cs', u.oneCell' = true) ∧ ok q := by
      intro i hi
      obtain ⟨cs', h1, h2⟩ := hx i (by omega)
      obtain ⟨q, h3, h4, h5⟩ := ho _ _ _ h2
      exact ⟨q, ⟨cs', h1, h3, h5⟩, h4⟩
    obtain ⟨q, hq⟩ : ∃ q : Nat → Option α, ∀ i, i < len → ∃ y, q i = some y ∧ (∃ cs', w.cells? 0 (a.add (i * s)) s = some cs' ∧ riL (FW w) w (f y) cs' ∧ ∀ u ∈ cs', u.oneCell' = true) ∧ ok y := by
      refine Classical.axiomOfChoice (r := fun i (o : Option α) => i < len → ∃ y, o = some y ∧ (∃ cs', w.cells? 0 (a.add (i * s)) s = some cs' ∧ riL (FW w) w (f y) cs' ∧ ∀ u ∈ cs', u.oneCell' = true) ∧ ok y) ?_
      intro i
      by_cases hi : i < len
      · obtain ⟨y, hy⟩ := each i hi
        exact ⟨some y, fun _ => ⟨y, rfl, hy⟩⟩
      · exact ⟨none, fun h => (hi h).elim⟩
    let l : List α := (List.range len).filterMap q
    have hl' : l.length = len ∧ ∀ i, i < len → l[i]? = q i := by
      have key : ∀ k, k ≤ len → ((List.range k).filterMap q).length = k ∧ ∀ i, i < k → ((List.range k).filterMap q)[i]? = q i := by
        intro k
        induction k with
        | zero => intro _; simp
        | succ k ih =>
          intro hk
          obtain ⟨h1, h2⟩ := ih (by omega)
          obtain ⟨y, hy, _⟩ := hq k (by omega)
          have : (List.range (k + 1)).filterMap q = (List.range k).filterMap q ++ [y] := by rw [List.range_succ, List.filterMap_append]; simp [hy]
          rw [this]
          refine ⟨by simp [h1], fun i hi => ?_⟩
          by_cases hik : i < k
          · rw [List.getElem?_append_left (by omega)]; exact h2 i hik
          · have : i = k := by omega
            subst this
            rw [List.getElem?_append_right (by omega), h1, hy]; simp
      exact key len (Nat.le_refl _)
    refine ⟨l, riL_one ?_, ⟨by omega, fun b hb => ?_⟩, by simp [Value.oneCell']⟩
    · simp only [ri]
      refine .inr ⟨a, m, by simp [hl'.1]; exact hl, by simp [hl'.1], ?_⟩
      by_cases h0 : len = 0
      · left
        have : l = [] := List.eq_nil_of_length_eq_zero (by omega)
        simp [this]
      · right
        have cell : ∀ (i : Nat) (cs' : List Value), i < len → w.cells? 0 (a.add (i * s)) s = some cs' → ∀ j, j < s → w.cell? (a.add (i * s + j)) = cs'[j]? ∧ cs'.length = s := by
          intro i cs' hi hc j hj
          obtain ⟨_, hlen, hcc⟩ := World.cells?_some hc
          have := hcc j hj
          rw [add_add] at this
          exact ⟨this, hlen⟩
        obtain ⟨y0, hy0, ⟨cs0, c1, _, _⟩, _⟩ := hq 0 (by omega)
        have hc0 := (cell 0 cs0 (by omega) c1 0 (by omega))
        have hsome : ∃ u, w.cell? a = some u := by
          have h1 := hc0.1
          rw [Nat.zero_mul, Nat.zero_add] at h1
          have : a.add 0 = a := by simp [Addr.add]
          rw [this] at h1
          rw [h1]
          exact ⟨cs0[0]'(by omega), List.getElem?_eq_getElem (by omega)⟩
        obtain ⟨u0, hu0⟩ := hsome
        have hspot : a.spot = none := by
          unfold World.cell? at hu0
          split at hu0
          · split at hu0
            · cases hu0
            · rename_i h; simpa using h
          · cases hu0
        obtain ⟨ab, ao, asp⟩ := a
        simp only at hspot
        subst hspot
        refine ⟨rfl, World.block_lt_of_cell? w _ hu0, ?_⟩
        rw [riRows_iff]
        intro i row hrow
        rw [List.getElem?_map, Option.map_eq_some_iff] at hrow
        obtain ⟨b, hb, rfl⟩ := hrow
        have hi : i < len := by have := (List.getElem?_eq_some_iff.1 hb).1; omega
        obtain ⟨y, hy, ⟨cs', g1, g2, g3⟩, _⟩ := hq i hi
        rw [hl'.2 i hi, hy] at hb
        simp at hb
        subst hb
        have hlen' := riL_length g2
        obtain ⟨_, hclen, _⟩ := World.cells?_some g1
        refine ⟨by omega, fun j v hj => ?_⟩
        obtain ⟨z, z1, z2⟩ := riL_get g2 j v hj
        have hjs : j < s := by have := (List.getElem?_eq_some_iff.1 z1).1; omega
        refine ⟨z, ?_, g3 z (List.mem_of_getElem? z1), z2⟩
        have := (cell i cs' hi g1 j hjs).1
        rw [add_lit, ← Nat.add_assoc] at this
        rw [this]; exact z1
    · obtain ⟨i, hi⟩ := List.mem_iff_getElem?.1 hb
      have hil : i < len := by have := (List.getElem?_eq_some_iff.1 hi).1; omega
      obtain ⟨y, hy, _, hok⟩ := hq i hil
      rw [hl'.2 i hil, hy] at hi
      simp at hi
      exact hi ▸ hok
theorem opensF_nil {total : Nat} : OpensF enc P w total total [] (fun _ : Unit => []) (fun _ => True) := by
  intro n cs hl _
  rw [List.drop_of_length_le (by omega)]
  exact ⟨(), by simp [riL], trivial, by simp⟩
theorem opensF_cons {total off k : Nat} {fd : Field} {fs : List Field} {α β : Type} {f : α → List V} {g : β → List V} {ok : α → Prop} {ok' : β → Prop} (ho : fd.offset = off) (hk : P.cellsOf fd.type = k)
    (h1 : Opens enc P w fd.type f ok) (h2 : OpensF enc P w total (off + k) fs g ok') : OpensF enc P w total off (fd :: fs) (fun x : α × β => f x.1 ++ g x.2) (fun x => ok x.1 ∧ ok' x.2) := by
  intro n cs hl hf
  obtain ⟨x, hx⟩ := hf fd (by simp)
  rw [ho, hk] at hx
  obtain ⟨a, a1, a2, a3⟩ := h1 _ _ _ hx
  obtain ⟨b, b1, b2, b3⟩ := h2 n cs hl (fun fd' h' => hf fd' (by simp [h']))
  have hsplit : cs.drop off = (cs.drop off).take k ++ cs.drop (off + k) := by rw [← List.drop_drop, List.take_append_drop]
  refine ⟨(a, b), ?_, ⟨a2, b2⟩, ?_⟩
  · rw [hsplit]; exact riL_append a1 b1
  · rw [hsplit]
    intro u hu
    rcases List.mem_append.1 hu with hu | hu
    · exact a3 u hu
    · exact b3 u hu
theorem opens_struct {t : TypeId} {fs : Array Field} {total : Nat} {α : Type} {f : α → List V} {ok : α → Prop} (ht : P.underlying t = some (.struct fs)) (hc : P.cellsOf t = total) (h : OpensF enc P w total 0 fs.toList f ok) : Opens enc P w t f ok := by
  intro fuel cs x hx
  obtain ⟨xs, n, _, _, hl, hxl, hf⟩ := DataW.trod_struct ht hx
  have := h n cs (by omega) (fun fd hfd => by
    obtain ⟨i, hi⟩ := List.mem_iff_getElem?.1 hfd
    have hi' : fs[i]? = some fd := by simpa using hi
    have := hf i fd hi'
    have hil : i < xs.length := by rw [hxl]; exact lt_of_some hi'
    rw [List.getElem?_eq_getElem hil] at this
    exact ⟨_, this⟩)
  simpa using this
theorem arg_int {t : TypeId} {k : IntKind} {v : Value} {d : DataW H} {p : List MemPlace} {r : Reach} {b0 : Nat} (ht : P.underlying t = some (.int k)) (hval : Value.okWide P w r b0 t v) (h : DataW.Trod enc P w 0 (fun _ => true) true t v d p) :
    ∃ n, ri (FW w) w (.raw (.int k n)) v ∧ (Lit.int k n).wf = true := by
  obtain ⟨n, rfl, _, _, hw⟩ := ChangeShapes.open_int ht hval h
  exact ⟨n, by simp [ri], hw⟩
theorem arg_slice {t e : TypeId} {v : Value} {d : DataW H} {p : List MemPlace} {r : Reach} {b0 : Nat} {α : Type} {f : α → V} {ok : α → Prop} (ht : P.underlying t = some (.slice e)) (hval : Value.okWide P w r b0 t v) (h : DataW.Trod enc P w 0 (fun _ => true) true t v d p)
    (ho : Opens enc P w t (fun a => [f a]) ok) : ∃ a, ri (FW w) w (f a) v ∧ ok a := by
  obtain ⟨a, len, cap, rfl⟩ := WideShapes.okWide_slice ht hval
  obtain ⟨fuel, hf⟩ := h
  obtain ⟨y, h1, h2, _⟩ := ho _ _ _ hf
  simp only [Value.cells, riL] at h1
  obtain ⟨x, xs, hx, h3, _⟩ := h1
  simp at hx
  exact ⟨y, by rw [hx.1]; exact h3, h2⟩
theorem arg_struct {t : TypeId} {fs : Array Field} {v : Value} {d : DataW H} {p : List MemPlace} {r : Reach} {b0 : Nat} {α : Type} {f : α → List V} {ok : α → Prop} (ht : P.underlying t = some (.struct fs)) (hval : Value.okWide P w r b0 t v) (h : DataW.Trod enc P w 0 (fun _ => true) true t v d p)
    (ho : Opens enc P w t f ok) : ∃ a, ri (FW w) w (.agg (f a)) v ∧ ok a := by
  obtain ⟨cs, rfl, _⟩ := WideShapes.okWide_struct ht hval
  obtain ⟨fuel, hf⟩ := h
  obtain ⟨y, h1, h2, _⟩ := ho _ _ _ hf
  exact ⟨y, by simp only [ri]; exact ⟨cs, rfl, h1⟩, h2⟩
end
end Go.Proofs.YtbionhgjgcpogaaGreatDoor.Clean
namespace Go.Proofs.YtbionhgjgcpogaaGreatDoor.Clean
set_option linter.unusedVariables false
set_option linter.unusedSimpArgs false
mutual
def litC {H : Type} (P : Program) : Nat → TypeId → DataW H → Option (List V)
  | 0, _, _ => none
  | f + 1, t, d => match P.underlying t with
    | some (.int k) => match d with
      | .lit (.int k' n) => some [.raw (.int k n)]
      | _ => none
    | some (.struct fs) => match d with
      | .agg xs => litF P f (P.cellsOf t) fs.toList xs 0
      | _ => none
    | some (.array n e) => match d with
      | .agg xs => if P.cellsOf t = n * P.cellsOf e then litA P f e xs else none
      | _ => none
    | _ => none
def litF {H : Type} (P : Program) : Nat → Nat → List Field → List (DataW H) → Nat → Option (List V)
  | 0, _, _, _, _ => none
  | _ + 1, n, [], [], o => if n = o then some [] else none
  | f + 1, n, fd :: fs, x :: xs, o => if fd.offset = o then (litC P f fd.type x).bind fun a => (litF P f n fs xs (o + P.cellsOf fd.type)).bind fun b => if a.length = P.cellsOf fd.type then some (a ++ b) else none else none
  | _, _, _, _, _ => none
def litA {H : Type} (P : Program) : Nat → TypeId → List (DataW H) → Option (List V)
  | 0, _, _ => none
  | _ + 1, _, [] => some []
  | f + 1, e, x :: xs => (litC P f e x).bind fun a => (litA P f e xs).bind fun b => if a.length = P.cellsOf e then some (a ++ b) else none
end
section
variable {H : Type} {enc : TypeId × Value → H} {P : Program} {w : World} {b0 : Nat} {sp : Nat → Bool} {held : Bool}
def CellsOK (w : World) (vs : List V) (cs : List Value) : Prop := cs.length = vs.length ∧ ∀ (i : Nat) v x, vs[i]? = some v → cs[i]? = some x → x.oneCell' = true ∧ ri (FW w) w v x
theorem CellsOK.append {vs us : List V} {cs ds : List Value} (h : CellsOK w vs cs) (k : CellsOK w us ds) : CellsOK w (vs ++ us) (cs ++ ds) := by
  refine ⟨by simp [h.1, k.1], fun i v x hv hx => ?_⟩
  by_cases hi : i < vs.length
  · rw [List.getElem?_append_left hi] at hv
    rw [List.getElem?_append_left (by rw [h.1]; exact hi)] at hx
    exact h.2 i v x hv hx
  · rw [List.getElem?_append_right (by omega)] at hv
    rw [List.getElem?_append_right (by rw [h.1]; omega), h.1] at hx
    exact k.2 _ v x hv hx
theorem take_split (cs : List Value) (o n : Nat) : cs.drop o = (cs.drop o).take n ++ cs.drop (o + n) := by rw [← List.drop_drop, List.take_append_drop]
theorem lit_ok (f : Nat) :
    (∀ (t : TypeId) (d : DataW H) (vs : List V), litC P f t d = some vs → ∀ fuel cs x, DataW.trod enc P w b0 sp held fuel t cs = some x → x.1 = d → CellsOK w vs cs) ∧
    (∀ (fs : List Field) (xs : List (DataW H)) (o : Nat) (vs : List V) (cs : List Value), litF P f cs.length fs xs o = some vs → ∀ m (ys : List (DataW H × List MemPlace)), ys.map (·.1) = xs → (∀ (i : Nat) fd, fs[i]? = some fd → DataW.trod enc P w b0 sp held m fd.type ((cs.drop fd.offset).take (P.cellsOf fd.type)) = ys[i]?) → CellsOK w vs (cs.drop o)) ∧
    (∀ (e : TypeId) (xs : List (DataW H)) (o : Nat) (vs : List V) (cs : List Value), litA P f e xs = some vs → cs.length = o + xs.length * P.cellsOf e → ∀ m (ys : List (DataW H × List MemPlace)), ys.map (·.1) = xs → (∀ (i : Nat), i < xs.length → DataW.trod enc P w b0 sp held m e ((cs.drop (o + i * P.cellsOf e)).take (P.cellsOf e)) = ys[i]?) → CellsOK w vs (cs.drop o)) := by
  induction f with
  | zero => exact ⟨fun t d vs h => by simp [litC] at h, fun fs xs o vs cs h => by simp [litF] at h, fun e xs o vs cs h => by simp [litA] at h⟩
  | succ f ih =>
    obtain ⟨ihC, ihF, ihA⟩ := ih
    refine ⟨fun t d vs h fuel cs x hx hd => ?_, fun fs xs o vs cs h m ys hys hf => ?_, fun e xs o vs cs h hl m ys hys hf => ?_⟩
    · simp only [litC] at h
      split at h
      · rename_i k hk
        split at h
        · rename_i k' n
          cases h
          obtain ⟨m, rfl, h2, _⟩ := DataW.trod_int hk hx
          have hxd : x.1 = .lit (.int k m) := by rw [h2]
          rw [hd] at hxd
          simp only [DataW.lit.injEq, Lit.int.injEq] at hxd
          obtain ⟨_, rfl⟩ := hxd
          refine ⟨rfl, fun i v x hv hx => ?_⟩
          cases i with
          | zero => simp at hv hx; subst hv; subst hx; exact ⟨rfl, by simp [ri]⟩
          | succ i => simp at hv
        · cases h
      · rename_i fs hs
        split at h
        · rename_i xs
          obtain ⟨ys, n, _, hy, hl, hyl, hf⟩ := DataW.trod_struct hs hx
          have hxs : ys.map (·.1) = xs := by
            have := hd
            rw [hy] at this
            simpa using this
          rw [← hl] at h
          have := ihF fs.toList xs 0 vs cs h n ys hxs (fun i fd hi => hf i fd (by simpa using hi))
          simpa using this
        · cases h
      · rename_i n e ha
        split at h
        · rename_i xs
          split at h
          · rename_i hn
            obtain ⟨ys, m, _, hy, hl, hyl, hf⟩ := DataW.trod_array ha hx
            have hxs : ys.map (·.1) = xs := by
              have := hd
              rw [hy] at this
              simpa using this
            have hxl : xs.length = n := by rw [← hxs]; simpa using hyl
            have := ihA e xs 0 vs cs h (by rw [hl, hn, hxl]; omega) m ys hxs (fun i hi => by rw [Nat.zero_add]; exact hf i (by omega))
            simpa using this
          · cases h
        · cases h
      · cases h
    · cases fs with
      | nil =>
        cases xs with
        | nil =>
          simp only [litF] at h
          split at h
          · rename_i hn
            cases h
            subst hn
            refine ⟨by simp, fun i v x hv hx => by simp at hv⟩
          · cases h
        | cons x xs => simp [litF] at h
      | cons fd fs =>
        cases xs with
        | nil => simp [litF] at h
        | cons x xs =>
          simp only [litF] at h
          split at h
          · rename_i ho
            cases ha : litC P f fd.type x with
            | none => rw [ha] at h; cases h
            | some a =>
              cases hb : litF P f cs.length fs xs (o + P.cellsOf fd.type) with
              | none => rw [ha, hb] at h; cases h
              | some b =>
                rw [ha, hb] at h
                simp only [Option.bind_some] at h
                split at h
                · rename_i hal
                  cases h
                  cases ys with
                  | nil => simp at hys
                  | cons y ys =>
                    simp only [List.map_cons, List.cons.injEq] at hys
                    have h0 := hf 0 fd rfl
                    rw [ho] at h0
                    rw [take_split cs o (P.cellsOf fd.type)]
                    exact (ihC _ _ _ ha _ _ _ h0 hys.1).append (ihF fs xs _ b cs hb m ys hys.2 (fun i fd' hi => hf (i + 1) fd' (by simpa using hi)))
                · cases h
          · cases h
    · cases xs with
      | nil =>
        simp only [litA, Option.some.injEq] at h
        subst h
        refine ⟨by simp at hl ⊢; omega, fun i v x hv hx => by simp at hv⟩
      | cons x xs =>
        simp only [litA] at h
        cases ha : litC P f e x with
        | none => rw [ha] at h; cases h
        | some a =>
          cases hb : litA P f e xs with
          | none => rw [ha, hb] at h; cases h
          | some b =>
            rw [ha, hb] at h
            simp only [Option.bind_some] at h
            split at h
            · rename_i hal
              cases h
              cases ys with
              | nil => simp at hys
              | cons y ys =>
                simp only [List.map_cons, List.cons.injEq] at hys
                have h0 := hf 0 (by simp)
                rw [Nat.zero_mul, Nat.add_zero] at h0
                rw [take_split cs o (P.cellsOf e)]
                refine (ihC _ _ _ ha _ _ _ h0 hys.1).append (ihA e xs _ b cs hb (by rw [hl, List.length_cons, Nat.add_mul]; omega) m ys hys.2 (fun i hi => ?_))
                have := hf (i + 1) (by simpa using hi)
                rw [Nat.add_mul, Nat.one_mul] at this
                rw [show o + P.cellsOf e + i * P.cellsOf e = o + (i * P.cellsOf e + P.cellsOf e) by omega]
                simpa using this
            · cases h
end
structure LaidOne (P : Program) (g : Nat) (n : String) (d : DataW Unit) (vs : List V) : Prop where
  name : P.globalNamed n = some g
  cells : (((P.globals[g]?).map (·.type)).bind fun t => litC P 64 t d) = some vs
theorem riCells_of {F : Nat → Prop} {w : World} {b : Nat} : ∀ (vs : List V) (o : Nat), (∀ i v, vs[i]? = some v → ∃ x, w.cell? ⟨b, o + i, none⟩ = some x ∧ x.oneCell' = true ∧ ri F w v x) → riCells F w b vs o
  | [], o, _ => by simp only [riCells]
  | v :: vs, o, h => by
    simp only [riCells]
    refine ⟨by simpa using h 0 v rfl, riCells_of vs (o + 1) fun i v hi => ?_⟩
    have := h (i + 1) v (by simpa using hi)
    rwa [show o + (i + 1) = o + 1 + i by omega] at this
theorem laid_adr {P : Program} {w : World} {laid : List (String × DataW Unit)} (hp : (laid.all fun x => x.2.handleName?.isNone) = true) (h : laidMetH P laid w) {g : Nat} {n : String} {d : DataW Unit} {vs : List V} (hm : (n, d) ∈ laid) (ho : LaidOne P g n d vs) (hne : vs ≠ []) :
    ri (FW w) w (.adr vs 0) (.pointer (some ⟨g, 0, none⟩)) := by
  rw [MakeChecks.laidMetH_plain _ _ _ hp] at h
  obtain ⟨ps, hl, _⟩ := h
  have key : ∀ (l : List (String × DataW Unit)) (ps : List MemPlace), DataW.LaidVars P w l ps → (n, d) ∈ l → ∃ t cs fuel p, (P.globals[g]?).map (·.type) = some t ∧ w.var? P n = some cs ∧ DataW.trod (fun _ => ()) P w 0 (fun _ => true) false fuel t cs.toList = some (d, p) := by
    intro l
    induction l with
    | nil => intro ps _ hm; cases hm
    | cons a r ih =>
      obtain ⟨n', d'⟩ := a
      intro ps hl hm
      obtain ⟨g', t, cs, fuel, p, q, h1, h2, h3, h4, h5, _⟩ := hl
      rcases List.mem_cons.1 hm with he | he
      · cases he
        obtain rfl := Option.some.inj (ho.name.symm.trans h1)
        exact ⟨t, cs, fuel, p, h2, h3, h4⟩
      · exact ih q h5 he
  obtain ⟨t, cs, fuel, p, h1, h2, h3⟩ := key laid ps hl hm
  have k2 := ho.cells
  rw [h1, Option.bind_some] at k2
  have hc := (lit_ok 64).1 _ _ _ k2 _ _ _ h3 rfl
  have hv := World.var?_cell ho.name h2
  simp only [ri]
  have cell : ∀ i v, vs[i]? = some v → ∃ x, w.cell? ⟨g, 0 + i, none⟩ = some x ∧ x.oneCell' = true ∧ ri (FW w) w v x := by
    intro i v hi
    have hlt : i < vs.length := (List.getElem?_eq_some_iff.1 hi).1
    have hlt' : i < cs.toList.length := by rw [hc.1]; exact hlt
    obtain ⟨q1, q2⟩ := hc.2 i v _ hi (List.getElem?_eq_getElem hlt')
    refine ⟨cs.toList[i], ?_, q1, q2⟩
    rw [Nat.zero_add, hv i]
    simp at hlt' ⊢
  refine ⟨g, 0, by simp, ?_, riCells_of vs 0 cell⟩
  obtain ⟨v, r, rfl⟩ := List.exists_cons_of_ne_nil hne
  obtain ⟨x, hx, _⟩ := cell 0 v rfl
  show g < w.heap.size
  simp only [World.cell?] at hx
  cases hh : w.heap[0 + g]? with
  | none => rw [Nat.zero_add] at hh; rw [hh] at hx; simp at hx
  | some o => rw [Nat.zero_add] at hh; exact lt_of_some hh
end Go.Proofs.YtbionhgjgcpogaaGreatDoor.Clean
