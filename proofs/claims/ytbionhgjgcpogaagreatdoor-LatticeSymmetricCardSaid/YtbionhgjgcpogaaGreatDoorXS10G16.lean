/- A part of the proof. -/
import Derived.Test.YtbionhgjgcpogaaGreatDoorProg
import Derived.ProofKit
import Derived.Deep.Slices
import Derived.Carry
import Derived.OpenShut
import Derived.MakeChecks
import Derived.FnData
import Derived.Deep.Strs
import Derived.Test.YtbionhgjgcpogaaGreatDoorXS10G7
import Derived.Test.YtbionhgjgcpogaaGreatDoorXS10G10
import Derived.Test.YtbionhgjgcpogaaGreatDoorXS10G11
import Derived.Test.YtbionhgjgcpogaaGreatDoorXS10G12
import Derived.Test.YtbionhgjgcpogaaGreatDoorXS10G13
import Derived.Test.YtbionhgjgcpogaaGreatDoorXS10G14
import Derived.Test.YtbionhgjgcpogaaGreatDoorXS10G15
namespace Go.Proofs.YtbionhgjgcpogaaGreatDoor
open Go Go.Proofs.YtbionhgjgcpogaaGreatDoor.Clean
set_option linter.unusedVariables false
set_option maxRecDepth 100000
theorem tok0 : Facts Tryz.prog glX tb0 := trivial
theorem t0 : KFX fa0 := k0 tok0
theorem tok1 : Facts Tryz.prog glX tb1 := ⟨t0, tok0⟩
theorem t1 : KFX fa1 := k1 tok1
theorem tok2 : Facts Tryz.prog glX tb2 := ⟨t1, tok1⟩
theorem t2 : KFX fa2 := k2 tok2
theorem tok3 : Facts Tryz.prog glX tb3 := ⟨t2, tok2⟩
theorem t3 : KFX fa3 := k3 tok3
theorem tok4 : Facts Tryz.prog glX tb4 := ⟨t3, tok3⟩
theorem t4 : KFX fa4 := k4 tok4
theorem tok5 : Facts Tryz.prog glX tb5 := ⟨t4, tok4⟩
theorem t5 : KFX fa5 := k5 tok5
theorem tok6 : Facts Tryz.prog glX tb6 := ⟨t5, tok5⟩
theorem t6 : KFX fa6 := k6 tok6
theorem tok7 : Facts Tryz.prog glX tb7 := ⟨t6, tok6⟩
theorem t7 : KFX fa7 := k7 tok7
theorem tok8 : Facts Tryz.prog glX tb8 := ⟨t7, tok7⟩
theorem t8 : KFX fa8 := k8 tok8
theorem tok9 : Facts Tryz.prog glX tb9 := ⟨t8, tok8⟩
theorem t9 : KFX fa9 := k9 tok9
theorem tok10 : Facts Tryz.prog glX tb10 := ⟨t9, tok9⟩
theorem t10 : KFX fa10 := k10 tok10
theorem tok11 : Facts Tryz.prog glX tb11 := ⟨t10, tok10⟩
theorem t11 : KFX fa11 := k11 tok11
theorem tok12 : Facts Tryz.prog glX tb12 := ⟨t11, tok11⟩
theorem t12 : KFX fa12 := k12 tok12
theorem tok13 : Facts Tryz.prog glX tb13 := ⟨t12, tok12⟩
theorem t13 : KFX fa13 := k13 tok13
theorem tok14 : Facts Tryz.prog glX tb14 := ⟨t13, tok13⟩
theorem t14 : KFX fa14 := k14 tok14
theorem tok15 : Facts Tryz.prog glX tb15 := ⟨t14, tok14⟩
theorem t15 : KFX fa15 := k15 tok15
theorem tok16 : Facts Tryz.prog glX tb16 := ⟨t15, tok15⟩
theorem t16 : KFX fa16 := k16 tok16
theorem tok17 : Facts Tryz.prog glX tb17 := ⟨t16, tok16⟩
theorem t17 : KFX fa17 := k17 tok17
theorem tok18 : Facts Tryz.prog glX tb18 := ⟨t17, tok17⟩
theorem t18 : KFX fa18 := k18 tok18
theorem tok19 : Facts Tryz.prog glX tb19 := ⟨t18, tok18⟩
theorem t19 : KFX fa19 := k19 tok19
theorem tok20 : Facts Tryz.prog glX tb20 := ⟨t19, tok19⟩
theorem t20 : KFX fa20 := k20 tok20
theorem tok21 : Facts Tryz.prog glX tb21 := ⟨t20, tok20⟩
theorem t21 : KFX fa21 := k21 tok21
theorem tok22 : Facts Tryz.prog glX tb22 := ⟨t21, tok21⟩
theorem t22 : KFX fa22 := k22 tok22
theorem tok23 : Facts Tryz.prog glX tb23 := ⟨t22, tok22⟩
theorem t23 : KFX fa23 := k23 tok23
theorem tok24 : Facts Tryz.prog glX tb24 := ⟨t23, tok23⟩
theorem t24 : KFX fa24 := k24 tok24
theorem tok25 : Facts Tryz.prog glX tb25 := ⟨t24, tok24⟩
theorem t25 : KFX fa25 := k25 tok25
theorem tok26 : Facts Tryz.prog glX tb26 := ⟨t25, tok25⟩
theorem t26 : KFX fa26 := k26 tok26
theorem tok27 : Facts Tryz.prog glX tb27 := ⟨t26, tok26⟩
theorem t27 : KFX fa27 := k27 tok27
theorem tok28 : Facts Tryz.prog glX tb28 := ⟨t27, tok27⟩
theorem t28 : KFX fa28 := k28 tok28
theorem tok29 : Facts Tryz.prog glX tb29 := ⟨t28, tok28⟩
theorem t29 : KFX fa29 := k29 tok29
theorem tok30 : Facts Tryz.prog glX tb30 := ⟨t29, tok29⟩
theorem t30 : KFX fa30 := k30 tok30
theorem tok31 : Facts Tryz.prog glX tb31 := ⟨t30, tok30⟩
theorem t31 : KFX fa31 := k31 tok31
theorem tok32 : Facts Tryz.prog glX tb32 := ⟨t31, tok31⟩
theorem t32 : KFX fa32 := k32 tok32
theorem tok33 : Facts Tryz.prog glX tb33 := ⟨t32, tok32⟩
theorem t33 : KFX fa33 := k33 tok33
theorem tok34 : Facts Tryz.prog glX tb34 := ⟨t33, tok33⟩
theorem t34 : KFX fa34 := k34 tok34
theorem tok35 : Facts Tryz.prog glX tb35 := ⟨t34, tok34⟩
theorem t35 : KFX fa35 := k35 tok35
theorem tok36 : Facts Tryz.prog glX tb36 := ⟨t35, tok35⟩
theorem t36 : KFX fa36 := k36 tok36
theorem tok37 : Facts Tryz.prog glX tb37 := ⟨t36, tok36⟩
theorem t37 : KFX fa37 := k37 tok37
theorem tok38 : Facts Tryz.prog glX tb38 := ⟨t37, tok37⟩
theorem t38 : KFX fa38 := k38 tok38
theorem tok39 : Facts Tryz.prog glX tb39 := ⟨t38, tok38⟩
theorem t39 : KFX fa39 := k39 tok39
end Go.Proofs.YtbionhgjgcpogaaGreatDoor
namespace Go.Proofs.YtbionhgjgcpogaaGreatDoor
open Go Go.Proofs.YtbionhgjgcpogaaGreatDoor.Clean
set_option linter.unusedVariables false
set_option maxRecDepth 100000
def kpJ : FuncId → Nat → Option (List Tmp) := slotsOf [(10, 0, [3, 4, 6, 54, 55, 56, 3000006]), (10, 2, [3, 4, 6, 79, 80, 81, 3000006]), (10, 4, [3, 4, 6, 10, 79, 80, 81, 85, 86, 87, 3000006])]
noncomputable def cfJ : Cfg := { cfgG Tryz.prog glX moD poP (rtP fN) (inN []) kpJ with clean := fun g => true }
noncomputable def sh10a (L : List Int) (ms : List (V × V)) (m i : Nat) : St := ⟨mkT [(3, bv true), (4, V.lst 1 (nl L)), (6, V.mp (Id.p 0)), (54, V.lst 1 (nl L)), (55, iv (m : Int)), (56, iv (i : Int))], ⟨[(0, O.mp ms)], 1, []⟩⟩
noncomputable def sh10b (L : List Int) (ms : List (V × V)) (m i : Nat) : St := ⟨mkT [(3, bv true), (4, V.lst 1 (nl L)), (6, V.mp (Id.p 0)), (79, V.lst 1 (nl L)), (80, iv (m : Int)), (81, iv (i : Int))], ⟨[(0, O.mp ms)], 1, []⟩⟩
noncomputable def sh10c (L : List Int) (ms : List (V × V)) (x : Int) (m i k : Nat) : St := ⟨mkT [(3, bv true), (4, V.lst 1 (nl L)), (6, V.mp (Id.p 0)), (10, iv x), (79, V.lst 1 (nl L)), (80, iv (m : Int)), (81, iv (i : Int)), (85, V.lst 1 (nl L)), (86, iv (m : Int)), (87, iv (k : Int))], ⟨[(0, O.mp ms)], 1, []⟩⟩
end Go.Proofs.YtbionhgjgcpogaaGreatDoor
namespace Go.Proofs.YtbionhgjgcpogaaGreatDoor
open Go Go.Proofs.YtbionhgjgcpogaaGreatDoor.Clean
set_option linter.unusedVariables false
set_option linter.unusedSimpArgs false
set_option maxRecDepth 10000
theorem hcJ : cfJ.ok Tryz.prog := by
  have h : (cfgG Tryz.prog glX moD poP (rtP fN) (inN []) kpJ).ok Tryz.prog := cfgG_ok (rtP_ok fN)
  exact ⟨h.1, h.2⟩
theorem cmp46 : ∀ a, a < 24 → ∀ b, b < 24 → K0G Tryz.prog glX 46 [iv ((a : Nat) : Int), iv ((b : Nat) : Int)] fun v => v = V.tup [iv (comp a b : Int), iv 0] :=
  all24 (P := fun a => ∀ b, b < 24 → K0G Tryz.prog glX 46 [iv ((a : Nat) : Int), iv ((b : Nat) : Int)] fun v => v = V.tup [iv (comp a b : Int), iv 0]) cmpA0 cmpA1 cmpA2 cmpA3 cmpA4 cmpA5 cmpA6 cmpA7 cmpA8 cmpA9 cmpA10 cmpA11 cmpA12 cmpA13 cmpA14 cmpA15 cmpA16 cmpA17 cmpA18 cmpA19 cmpA20 cmpA21 cmpA22 cmpA23
def mpE (l : List Nat) : List (V × V) := l.map fun n : Nat => (iv (n : Int), bv true)
theorem mpE_closed (l : List Nat) : (mpE l).all closedE = true := by
  rw [List.all_eq_true]
  intro x hx
  obtain ⟨n, _, rfl⟩ := List.mem_map.1 hx
  rfl
theorem eqC_i (x y : Int) : eqC Tryz.prog 8 3 (iv x) (iv y) = some (x == y) := by kernel_rfl
theorem find_mem {x : Nat} : ∀ {T : List Nat} (i : Nat), x ∈ T → ∃ j, findK Tryz.prog 3 (iv (x : Int)) (mpE T) i = some (some (j, iv (x : Int), bv true))
  | y :: T, i, h => by
    show ∃ j, (eqC Tryz.prog 8 3 (iv (x : Int)) (iv (y : Int))).bind _ = _
    rw [eqC_i]
    by_cases e : x = y
    · subst e
      exact ⟨i, by simp⟩
    · obtain ⟨j, hj⟩ := find_mem (T := T) (i + 1) (by rcases List.mem_cons.1 h with h | h; exact (e h).elim; exact h)
      refine ⟨j, ?_⟩
      have : ((x : Int) == (y : Int)) = false := by simp; omega
      rw [this]
      exact hj
theorem find_not {x : Nat} : ∀ {T : List Nat} (i : Nat), ¬ x ∈ T → findK Tryz.prog 3 (iv (x : Int)) (mpE T) i = some none
  | [], i, h => rfl
  | y :: T, i, h => by
    show (eqC Tryz.prog 8 3 (iv (x : Int)) (iv (y : Int))).bind _ = _
    rw [eqC_i]
    have e : x ≠ y := fun e => h (by simp [e])
    have : ((x : Int) == (y : Int)) = false := by simp; omega
    rw [this]
    exact find_not (i + 1) (fun g => h (List.mem_cons_of_mem _ g))
theorem onFind_s {o : Option (Option (Nat × V × V))} {k : Nat → V → V → Prop} {n : Prop} {i : Nat} {u v : V} (ho : o = some (some (i, u, v))) (h : k i u v) : onFind o k n := by subst ho; exact h
theorem onFind_n {o : Option (Option (Nat × V × V))} {k : Nat → V → V → Prop} {n : Prop} (ho : o = some none) (h : n) : onFind o k n := by subst ho; exact h
theorem law10 {q : Kd} {R : V → Prop} (hk : ∀ x ∈ q.2.1, KnR x) (h : R (bv true)) : K0G Tryz.prog glX 10 [.agg (kdr q)] R := by
  refine K0_by hmX hcJ 3000 Tryz.func10 (p := K0G Tryz.prog glX 37 [] fun v => onBool v fun b => K0G Tryz.prog glX 12 [V.lst 3 [[V.lst 3 (cll q.1), V.lst 5 (knl q.2.1), iv q.2.2]], V.agg [nilS]] fun v => onBool v fun b_1 => ifB b_1 (R (bv b)) (K0G Tryz.prog glX 18 [V.agg [V.lst 3 (cll q.1), V.lst 5 (knl q.2.1), iv q.2.2]] fun v => onTup v fun vs => onCons vs fun u r => onLst u fun s es => onCons r fun u r => onIntK IntKind.i64 u fun n => onNil r (ifB (n != (0 : Int)) (ifB b (ifB (n == (10 : Int)) (R (bv ((↑es.length : Int) == (0 : Int)))) (R (bv false))) (R (bv false))) (ifB ((↑es.length : Int) == (0 : Int)) (R (bv false)) (need (s = 1) (onSome es[0]? fun row => onSome row[0]? fun v => onIntK IntKind.i64 v fun n => ifB (n != (0 : Int)) (R (bv false)) (need ((↑es.length : Int) ≠ (0 : Int)) (ifB (Int.tmod (24 : Int) (↑es.length : Int) != (0 : Int)) (R (bv false)) (La 0 [(3 : Tmp), (4 : Tmp), (6 : Tmp), (54 : Tmp), (55 : Tmp), (56 : Tmp), (3000006 : Tmp)] (WY Tryz.prog cfJ 2989 (Env.mk (Bs.mk 0 []) 0 none 108 10 0) (cdAt [1, 1, 1, 1, 1, 1, 1, 0, 1, 0, 0] (bodyOf Tryz.f10))) (Qblk 0 (Qthen (WY Tryz.prog cfJ 2992 (Env.mk (Bs.mk 0 []) 0 none 108 10 0) (cdAt [1, 1, 1, 1, 1, 1, 1, 1] (bodyOf Tryz.f10)) (QendX Tryz.prog Tryz.f10 fun v h => R (frzW h v))) (QendX Tryz.prog Tryz.f10 fun v h => R (frzW h v)))) (St.mk (mkT [(3, bv b), (4, V.lst s es), (6, V.mp (Id.p 0)), (54, V.lst s es), (55, iv (↑es.length : Int)), (56, iv (0 : Int))]) (Hp.mk [(0, O.mp [])] 1 []))))))))))) (by kernel_rfl) ?_
  refine K0G.mono (show K0G Tryz.prog glX 37 [] fun v => v = bv true from t37) (fun v hv => ?_)
  subst hv
  refine onBool_bv (great12' (l := [q]) (onBool_bv (ifB_mk (fun _ => h) (fun c1 => ?_))))
  obtain ⟨_, hkr⟩ := (GreatP.not (dc_false c1)) (fun q' hq => by rw [List.mem_singleton.1 hq]; exact hk)
  have hkd := hkr q (by simp)
  refine sym18 hkd (fun hK => ?_) (fun hK => onTup_tup (onCons_cons (onLst_nil (onCons_cons (onIntK_iv (onNil_nil (ifB_t rfl (ifB_t rfl (ifB_t rfl h)))))))))
  have hQ : KnbP q := hK.put hkd
  obtain ⟨T, hT⟩ : ∃ T : List Nat, T = (List.range 24).filter fun t => dc (LikeP q t 0 (0, 0, 0)) := ⟨_, rfl⟩
  obtain ⟨L, hL⟩ : ∃ L, L = symF q 24 := ⟨_, rfl⟩
  have hLT : L = T.map fun t : Nat => (t : Int) := by rw [hL, hT]; rfl
  have hmem : ∀ n, n ∈ T ↔ n < 24 ∧ Sy q n := fun n => by
    rw [hT, List.mem_filter, List.mem_range]
    constructor
    · rintro ⟨a, b⟩; exact ⟨a, (sy_like hQ hK.1 a).1 (dc_true b)⟩
    · rintro ⟨a, b⟩; exact ⟨a, dc_t ((sy_like hQ hK.1 a).2 b)⟩
  have hpw : T.Pairwise (· < ·) := by rw [hT]; exact List.pairwise_lt_range.filter _
  have h24 : ∀ n ∈ T, n < 24 := fun n hn => ((hmem n).1 hn).1
  have h0 : 0 ∈ T := by rw [hT]; exact List.mem_filter.2 ⟨List.mem_range.2 (by omega), dc_t (like_self hK.1.1.1)⟩
  have hcl : ∀ a ∈ T, ∀ b ∈ T, comp a b ∈ T := fun a ha b hb => (hmem _).2 ⟨comp_lt (h24 a ha) (h24 b hb), sy_comp hQ (h24 a ha) (h24 b hb) ((hmem a).1 ha).2 ((hmem b).1 hb).2⟩
  have hdiv := div24 (hpw.imp (fun h => Nat.ne_of_lt h)) h24 h0 hcl
  have hfirst : T[0]? = some 0 := by
    cases hTe : T with
    | nil => rw [hTe] at h0; simp at h0
    | cons x r =>
      rw [hTe] at h0 hpw
      rcases List.mem_cons.1 h0 with e | e
      · rw [← e]; rfl
      · exact absurd ((List.pairwise_cons.1 hpw).1 0 e) (by omega)
  rw [← hL]
  have hget : ∀ {i t : Nat}, T[i]? = some t → (nl L)[i]? = some [iv (t : Int)] := fun {i t} e => by rw [hLT]; simp [nl, e]
  have hlen : (nl L).length = T.length := by rw [hLT]; simp [nl]
  have hpos : 0 < T.length := List.length_pos_of_mem h0
  have hle24 : T.length ≤ 24 := by have := Nat.le_of_dvd (by omega) hdiv; omega
  clear hL hT
  refine onTup_tup (onCons_cons (onLst_lst (onCons_cons (onIntK_iv (onNil_nil (ifB_f rfl ?_))))))
  have htm : Int.tmod 24 ((nl L).length : Int) = 0 := Int.tmod_eq_zero_of_dvd (by rw [hlen]; exact Int.ofNat_dvd.2 hdiv)
  refine ifB_f (by rw [hlen]; exact beq_eq_false_iff_ne.2 (by omega)) (need_mk ⟨rfl, onSome_mk (hget hfirst) (onSome_mk rfl (onIntK_iv (ifB_f rfl (need_mk ⟨by rw [hlen]; omega, ifB_f (by rw [htm]; rfl) ?_⟩))))⟩)
  obtain ⟨m, hm⟩ : ∃ m, m = (nl L).length := ⟨_, rfl⟩
  rw [← hm]
  have hmT : m = T.length := by rw [hm, hlen]
  refine La.of (σ := Nat × List (V × V)) (fun x => sh10a L x.2 m x.1) (fun x => x.1 ≤ m ∧ x.2 = mpE (T.take x.1)) (fun x => m - x.1) (0, []) (by kernel_rfl) ⟨by omega, by simp [mpE]⟩ ?_
  rintro ⟨i, ms⟩ ⟨g1, g2⟩ J hJ
  simp only at g1 g2
  refine see (p := ifB (decide ((↑i : Int) < (↑m : Int))) (onSome (nl L)[i]? fun row => onSome row[0]? fun v => onIntK IntKind.i64 v fun n => ifB (decide ((↑i : Int) > (0 : Int))) (onNat (IntKind.i64.wrap ((↑i : Int) - (1 : Int))) fun m_1 => onSome (nl L)[m_1]? fun row => onSome row[0]? fun v => onIntK IntKind.i64 v fun n_1 => ifB (decide (n ≤ n_1)) (R (bv false)) (ifB (decide (n > (23 : Int))) (R (bv false)) (onFind (findK Tryz.prog 3 (iv n) ms 0) (fun i_1 kv vv => guardB (sameC kv (iv n)) (guardB ((ms.set i_1 (iv n, bv true)).all closedE) (J (St.mk (mkT [(3, bv true), (4, V.lst 1 (nl L)), (6, V.mp (Id.p 0)), (54, V.lst 1 (nl L)), (55, iv (↑m : Int)), (56, iv (IntKind.i64.wrap ((↑i : Int) + (1 : Int))))]) (Hp.mk [(0, O.mp (ms.set i_1 (iv n, bv true)))] 1 []))))) (guardB ((ms ++ [(iv n, bv true)]).all closedE) (J (St.mk (mkT [(3, bv true), (4, V.lst 1 (nl L)), (6, V.mp (Id.p 0)), (54, V.lst 1 (nl L)), (55, iv (↑m : Int)), (56, iv (IntKind.i64.wrap ((↑i : Int) + (1 : Int))))]) (Hp.mk [(0, O.mp (ms ++ [(iv n, bv true)]))] 1 []))))))) (ifB (decide (n > (23 : Int))) (R (bv false)) (onFind (findK Tryz.prog 3 (iv n) ms 0) (fun i_1 kv vv => guardB (sameC kv (iv n)) (guardB ((ms.set i_1 (iv n, bv true)).all closedE) (J (St.mk (mkT [(3, bv true), (4, V.lst 1 (nl L)), (6, V.mp (Id.p 0)), (54, V.lst 1 (nl L)), (55, iv (↑m : Int)), (56, iv (IntKind.i64.wrap ((↑i : Int) + (1 : Int))))]) (Hp.mk [(0, O.mp (ms.set i_1 (iv n, bv true)))] 1 []))))) (guardB ((ms ++ [(iv n, bv true)]).all closedE) (J (St.mk (mkT [(3, bv true), (4, V.lst 1 (nl L)), (6, V.mp (Id.p 0)), (54, V.lst 1 (nl L)), (55, iv (↑m : Int)), (56, iv (IntKind.i64.wrap ((↑i : Int) + (1 : Int))))]) (Hp.mk [(0, O.mp (ms ++ [(iv n, bv true)]))] 1 []))))))) (guardB (ms.all closedE) (La 0 [(3 : Tmp), (4 : Tmp), (6 : Tmp), (79 : Tmp), (80 : Tmp), (81 : Tmp), (3000006 : Tmp)] (WY Tryz.prog cfJ 2988 (Env.mk (Bs.mk 0 []) 0 none 108 10 2) (cdAt [1, 1, 1, 1, 1, 1, 1, 1, 0, 1, 0, 0] (bodyOf Tryz.f10))) (Qblk 2 (Qthen (WY Tryz.prog cfJ 2991 (Env.mk (Bs.mk 0 []) 0 none 108 10 0) (cdAt [1, 1, 1, 1, 1, 1, 1, 1, 1] (bodyOf Tryz.f10)) (QendX Tryz.prog Tryz.f10 fun v h => R (frzW h v))) (QendX Tryz.prog Tryz.f10 fun v h => R (frzW h v)))) (St.mk (mkT [(3, bv true), (4, V.lst 1 (nl L)), (6, V.mp (Id.p 0)), (79, V.lst 1 (nl L)), (80, iv (↑(nl L).length : Int)), (81, iv (0 : Int))]) (Hp.mk [(0, O.mp ms)] 1 []))))) (by kernel_rfl) ?_
  refine ifB_mk (fun d => ?_) (fun d => ?_)
  · have hi : i < m := by have := of_decide_eq_true d; omega
    obtain ⟨t, ht⟩ := getI (l := T) (k := i) (by omega)
    have ht24 := h24 t (mem_at ht)
    have hts : T.take (i + 1) = T.take i ++ [t] := take_succ' ht
    have hnot : ¬ t ∈ T.take i := fun hm' => by
      obtain ⟨j, hj⟩ := List.mem_iff_getElem?.1 hm'
      have hji : j < i := by
        have := (List.getElem?_eq_some_iff.1 hj).1
        simp at this
        omega
      rw [List.getElem?_take, if_pos hji] at hj
      obtain ⟨a1, a2⟩ := List.getElem?_eq_some_iff.1 hj
      obtain ⟨b1, b2⟩ := List.getElem?_eq_some_iff.1 ht
      have := List.pairwise_iff_getElem.1 hpw j i a1 b1 hji
      omega
    have nxt : ms ++ [(iv (t : Int), bv true)] = mpE (T.take (i + 1)) := by rw [hts, g2]; simp [mpE]
    have tail : ∀ w : Int, w = ((i + 1 : Nat) : Int) → onFind (findK Tryz.prog 3 (iv (t : Int)) ms 0) (fun i_1 kv vv => guardB (sameC kv (iv (t : Int))) (guardB ((ms.set i_1 (iv (t : Int), bv true)).all closedE) (J (St.mk (mkT [(3, bv true), (4, V.lst 1 (nl L)), (6, V.mp (Id.p 0)), (54, V.lst 1 (nl L)), (55, iv (m : Int)), (56, iv w)]) (Hp.mk [(0, O.mp (ms.set i_1 (iv (t : Int), bv true)))] 1 []))))) (guardB ((ms ++ [(iv (t : Int), bv true)]).all closedE) (J (St.mk (mkT [(3, bv true), (4, V.lst 1 (nl L)), (6, V.mp (Id.p 0)), (54, V.lst 1 (nl L)), (55, iv (m : Int)), (56, iv w)]) (Hp.mk [(0, O.mp (ms ++ [(iv (t : Int), bv true)]))] 1 [])))) := fun w hw => by
      refine onFind_n (by rw [g2]; exact find_not 0 hnot) (guardB_mk (by rw [nxt]; exact mpE_closed _) ?_)
      rw [hw]
      exact hJ (i + 1, ms ++ [(iv (t : Int), bv true)]) ⟨hi, nxt⟩ (by simp only; omega)
    have wi := wr1i hi (by omega)
    refine onSome_mk (hget ht) (onSome_mk rfl (onIntK_iv (ifB_mk (fun e => ?_) (fun e => ifB_f (by simp; omega) (tail _ wi)))))
    have hi0 : 0 < i := by have := of_decide_eq_true e; omega
    obtain ⟨u, hu⟩ := getI (l := T) (k := i - 1) (by omega)
    have hut : u < t := by
      obtain ⟨a1, a2⟩ := List.getElem?_eq_some_iff.1 hu
      obtain ⟨b1, b2⟩ := List.getElem?_eq_some_iff.1 ht
      have := List.pairwise_iff_getElem.1 hpw (i - 1) i a1 b1 (by omega)
      omega
    refine onNat_mk (m := i - 1) (by rw [wr (by omega) (by omega)]; omega) (onSome_mk (hget hu) (onSome_mk rfl (onIntK_iv (ifB_f (by simp; omega) (ifB_f (by simp; omega) (tail _ wi))))))
  · have hi : i = m := by have := of_decide_eq_false d; omega
    have g3 : ms = mpE T := by rw [g2, hi, hmT, List.take_length]
    have hcm : ms.all closedE = true := by rw [g3]; exact mpE_closed _
    refine guardB_mk hcm ?_
    clear hJ g1 g2 d hi
    refine La.of (σ := Nat) (fun k => sh10b L ms m k) (fun k => k ≤ m) (fun k => m - k) 0 (by rw [hm]; kernel_rfl) (by omega) ?_
    intro i g1 I hI
    refine see (p := ifB (decide ((↑i : Int) < (↑m : Int))) (onSome (nl L)[i]? fun row => onSome row[0]? fun v => onIntK IntKind.i64 v fun n => guardB (ms.all closedE) (La 0 [(3 : Tmp), (4 : Tmp), (6 : Tmp), (10 : Tmp), (79 : Tmp), (80 : Tmp), (81 : Tmp), (85 : Tmp), (86 : Tmp), (87 : Tmp), (3000006 : Tmp)] (WY Tryz.prog cfJ 2980 (Env.mk (Bs.mk 0 []) 0 none 108 10 4) (cdAt [1, 1, 1, 1, 1, 1, 1, 1, 0, 1, 0, 0, 1, 1, 0, 0, 1, 1, 0, 0] (bodyOf Tryz.f10))) (Qblk 4 (Qblk 3 (Qthen (WY Tryz.prog cfJ 2985 (Env.mk (Bs.mk 0 []) 0 none 108 10 2) (cdAt [1, 1, 1, 1, 1, 1, 1, 1, 0, 1, 0, 0, 1, 1, 1] (bodyOf Tryz.f10)) (Qla 0 [(3 : Tmp), (4 : Tmp), (6 : Tmp), (79 : Tmp), (80 : Tmp), (81 : Tmp), (3000006 : Tmp)] I (Qblk 2 (Qthen (WY Tryz.prog cfJ 2991 (Env.mk (Bs.mk 0 []) 0 none 108 10 0) (cdAt [1, 1, 1, 1, 1, 1, 1, 1, 1] (bodyOf Tryz.f10)) (QendX Tryz.prog Tryz.f10 fun v h => R (frzW h v))) (QendX Tryz.prog Tryz.f10 fun v h => R (frzW h v)))))) (Qla 0 [(3 : Tmp), (4 : Tmp), (6 : Tmp), (79 : Tmp), (80 : Tmp), (81 : Tmp), (3000006 : Tmp)] I (Qblk 2 (Qthen (WY Tryz.prog cfJ 2991 (Env.mk (Bs.mk 0 []) 0 none 108 10 0) (cdAt [1, 1, 1, 1, 1, 1, 1, 1, 1] (bodyOf Tryz.f10)) (QendX Tryz.prog Tryz.f10 fun v h => R (frzW h v))) (QendX Tryz.prog Tryz.f10 fun v h => R (frzW h v)))))))) (St.mk (mkT [(3, bv true), (4, V.lst 1 (nl L)), (6, V.mp (Id.p 0)), (10, iv n), (79, V.lst 1 (nl L)), (80, iv (↑m : Int)), (81, iv (↑i : Int)), (85, V.lst 1 (nl L)), (86, iv (↑(nl L).length : Int)), (87, iv (0 : Int))]) (Hp.mk [(0, O.mp ms)] 1 [])))) (R (bv true))) (by kernel_rfl) ?_
    refine ifB_mk (fun d => ?_) (fun d => h)
    have hi : i < m := by have := of_decide_eq_true d; omega
    obtain ⟨t, ht⟩ := getI (l := T) (k := i) (by omega)
    refine onSome_mk (hget ht) (onSome_mk rfl (onIntK_iv (guardB_mk hcm ?_)))
    obtain ⟨n, hn⟩ : ∃ n : Int, n = (t : Int) := ⟨_, rfl⟩
    rw [← hn]
    refine La.of (σ := Nat) (fun k => sh10c L ms n m i k) (fun k => k ≤ m) (fun k => m - k) 0 (by rw [hm]; kernel_rfl) (by omega) ?_
    intro k f1 N hN
    refine see (p := ifB (decide ((↑k : Int) < (↑m : Int))) (onSome (nl L)[k]? fun row => onSome row[0]? fun v => onIntK IntKind.i64 v fun n_1 => K0G Tryz.prog glX 46 [iv n, iv n_1] fun v => onTup v fun vs => onCons vs fun u r => onIntK IntKind.i64 u fun n_2 => onCons r fun u r => onIntK IntKind.i64 u fun n_3 => onNil r (ifB (n_3 != (0 : Int)) (R (bv false)) (onFind (findK Tryz.prog 3 (iv n_2) ms 0) (fun i_1 kv vv => onBool vv fun b => ifB (!b) (R (bv false)) (guardB (ms.all closedE) (N (St.mk (mkT [(3, bv true), (4, V.lst 1 (nl L)), (6, V.mp (Id.p 0)), (10, iv n), (79, V.lst 1 (nl L)), (80, iv (↑m : Int)), (81, iv (↑i : Int)), (85, V.lst 1 (nl L)), (86, iv (↑m : Int)), (87, iv (IntKind.i64.wrap ((↑k : Int) + (1 : Int))))]) (Hp.mk [(0, O.mp ms)] 1 []))))) (R (bv false))))) (guardB (ms.all closedE) (I (St.mk (mkT [(3, bv true), (4, V.lst 1 (nl L)), (6, V.mp (Id.p 0)), (79, V.lst 1 (nl L)), (80, iv (↑m : Int)), (81, iv (IntKind.i64.wrap ((↑i : Int) + (1 : Int))))]) (Hp.mk [(0, O.mp ms)] 1 []))))) (by kernel_rfl) ?_
    refine ifB_mk (fun d => ?_) (fun d => ?_)
    · have hk' : k < m := by have := of_decide_eq_true d; omega
      obtain ⟨u, hu⟩ := getI (l := T) (k := k) (by omega)
      refine onSome_mk (hget hu) (onSome_mk rfl (onIntK_iv ?_))
      rw [hn]
      refine K0G.mono (cmp46 t (h24 t (mem_at ht)) u (h24 u (mem_at hu))) (fun v hv => ?_)
      subst hv
      obtain ⟨j, hj⟩ := find_mem (T := T) 0 (hcl t (mem_at ht) u (mem_at hu))
      refine onTup_tup (onCons_cons (onIntK_iv (onCons_cons (onIntK_iv (onNil_nil (ifB_f rfl (onFind_s (by rw [g3]; exact hj) (onBool_bv (ifB_f rfl (guardB_mk hcm ?_))))))))))
      rw [wr1i hk' (by omega), ← hn]
      exact hN (k + 1) hk' (by omega)
    · rw [wr1i hi (by omega)]
      exact guardB_mk hcm (hI (i + 1) hi (by omega))
end Go.Proofs.YtbionhgjgcpogaaGreatDoor
namespace Go.Proofs.YtbionhgjgcpogaaGreatDoor.Clean
open Go.Deep
set_option linter.unusedSimpArgs false
set_option linter.unusedVariables false
section
variable {H : Type} (enc : TypeId × Value → H) (P : Program) (w : World)
def FW (r : Nat) : Prop := r < w.heap.size
def Opens (t : TypeId) {α : Type} (f : α → List V) (ok : α → Prop) : Prop :=
  ∀ fuel cs x, DataW.trod enc P w 0 (fun _ => true) true fuel t cs = some x → ∃ a, riL (FW w) w (f a) cs ∧ ok a ∧ ∀ u ∈ cs, u.oneCell' = true
def OpensF (total : Nat) (off : Nat) (fs : List Field) {α : Type} (f : α → List V) (ok : α → Prop) : Prop :=
  ∀ n (cs : List Value), cs.length = total → (∀ fd ∈ fs, ∃ x, DataW.trod enc P w 0 (fun _ => true) true n fd.type ((cs.drop fd.offset).take (P.cellsOf fd.type)) = some x) →
    ∃ a, riL (FW w) w (f a) (cs.drop off) ∧ ok a ∧ ∀ u ∈ cs.drop off, u.oneCell' = true
end
section
variable {H : Type} {enc : TypeId × Value → H} {P : Program} {w : World}
theorem riL_append : ∀ {vs us : List V} {xs ys : List Value}, riL (FW w) w vs xs → riL (FW w) w us ys → riL (FW w) w (vs ++ us) (xs ++ ys)
  | [], us, xs, ys, h, k => by simp only [riL] at h; subst h; simpa using k
  | v :: vs, us, xs, ys, h, k => by
    simp only [riL] at h
    obtain ⟨x, zs, rfl, h2, h3⟩ := h
    simp only [List.cons_append, riL]
    exact ⟨x, zs ++ ys, rfl, h2, riL_append h3 k⟩
theorem riL_one {v : V} {x : Value} (h : ri (FW w) w v x) : riL (FW w) w [v] [x] := by simp only [riL]; exact ⟨x, [], rfl, h, rfl⟩
theorem riL_get : ∀ {vs : List V} {xs : List Value}, riL (FW w) w vs xs → ∀ (i : Nat) v, vs[i]? = some v → ∃ x, xs[i]? = some x ∧ ri (FW w) w v x
  | [], xs, h, i, v, hi => by simp at hi
  | u :: vs, xs, h, i, v, hi => by
    simp only [riL] at h
    obtain ⟨x, ys, rfl, h2, h3⟩ := h
    cases i with
    | zero => simp at hi; subst hi; exact ⟨x, rfl, h2⟩
    | succ i => simp at hi; simpa using riL_get h3 i v hi
theorem riL_length : ∀ {vs : List V} {xs : List Value}, riL (FW w) w vs xs → xs.length = vs.length
  | [], xs, h => by simp only [riL] at h; simp [h]
  | v :: vs, xs, h => by simp only [riL] at h; obtain ⟨x, ys, rfl, _, h3⟩ := h; simp [riL_length h3]
theorem opens_int {t : TypeId} {k : IntKind} (ht : P.underlying t = some (.int k)) : Opens enc P w t (fun n : Int => [.raw (.int k n)]) (fun n => (Lit.int k n).wf = true) := by
  intro fuel cs x h
  obtain ⟨n, rfl, _, hw⟩ := DataW.trod_int ht h
  exact ⟨n, riL_one (by simp [ri]), hw, by simp [Value.oneCell']⟩
theorem opens_slice {t e : TypeId} {s : Nat} {α : Type} {f : α → List V} {ok : α → Prop} (ht : P.underlying t = some (.slice e)) (hs : P.cellsOf e = s) (hpos : s ≠ 0) (ho : Opens enc P w e f ok) :
    Opens enc P w t (fun l : List α => [.lst s (l.map f)]) (fun l => l.length ≤ maxLen ∧ ∀ a ∈ l, ok a) := by
  intro fuel cs x h
  rcases open_slice ht h with ⟨rfl, _⟩ | ⟨a, len, cap, m, n, D, Pl, rfl, _, hl, hm, hmm, _, hx⟩
  · exact ⟨[], riL_one (by simp [ri]), by simp, by simp [Value.oneCell']⟩
  · simp only [if_true] at hmm
    subst hmm
    rw [hs] at hx
    have each : ∀ i, i < len → ∃ q : α, (∃ cs', w.cells? 0 (a.add (i * s)) s = some cs' ∧ riL (FW w) w (f q) cs' ∧ ∀ u ∈ cs', u.oneCell' = true) ∧ ok q := by
      intro i hi
      obtain ⟨cs', h1, h2⟩ := hx i (by omega)
      obtain ⟨q, h3, h4, h5⟩ := ho _ _ _ h2
      exact ⟨q, ⟨cs', h1, h3, h5⟩, h4⟩
    obtain ⟨q, hq⟩ : ∃ q : Nat → Option α, ∀ i, i < len → ∃ y, q i = some y ∧ (∃ cs', w.cells? 0 (a.add (i * s)) s = some cs' ∧ riL (FW w) w (f y) cs' ∧ ∀ u ∈ cs', u.oneCell' = true) ∧ ok y := by
      refine Classical.axiomOfChoice (r := fun i (o : Option α) => i < len → ∃ y, o = some y ∧ (∃ cs', w.cells? 0 (a.add (i * s)) s = some cs' ∧ riL (FW w) w (f y) cs' ∧ ∀ u ∈ cs', u.oneCell' = true) ∧ ok y) ?_
      intro i
      by_cases hi : i < len
      · obtain ⟨y, hy⟩ := each i hi
        exact ⟨some y, fun _ => ⟨y, rfl, hy⟩⟩
      · exact ⟨none, fun h => (hi h).elim⟩
    let l : List α := (List.range len).filterMap q
    have hl' : l.length = len ∧ ∀ i, i < len → l[i]? = q i := by
      have key : ∀ k, k ≤ len → ((List.range k).filterMap q).length = k ∧ ∀ i, i < k → ((List.range k).filterMap q)[i]? = q i := by
        intro k
        induction k with
        | zero => intro _; simp
        | succ k ih =>
          intro hk
          obtain ⟨h1, h2⟩ := ih (by omega)
          obtain ⟨y, hy, _⟩ := hq k (by omega)
          have : (List.range (k + 1)).filterMap q = (List.range k).filterMap q ++ [y] := by rw [List.range_succ, List.filterMap_append]; simp [hy]
          rw [this]
          refine ⟨by simp [h1], fun i hi => ?_⟩
          by_cases hik : i < k
          · rw [List.getElem?_append_left (by omega)]; exact h2 i hik
          · have : i = k := by omega
            subst this
            rw [List.getElem?_append_right (by omega), h1, hy]; simp
      exact key len (Nat.le_refl _)
    refine ⟨l, riL_one ?_, ⟨by omega, fun b hb => ?_⟩, by simp [Value.oneCell']⟩
    · simp only [ri]
      refine .inr ⟨a, m, by simp [hl'.1]; exact hl, by simp [hl'.1], ?_⟩
      by_cases h0 : len = 0
      · left
        have : l = [] := List.eq_nil_of_length_eq_zero (by omega)
        simp [this]
      · right
        have cell : ∀ (i : Nat) (cs' : List Value), i < len → w.cells? 0 (a.add (i * s)) s = some cs' → ∀ j, j < s → w.cell? (a.add (i * s + j)) = cs'[j]? ∧ cs'.length = s := by
          intro i cs' hi hc j hj
          obtain ⟨_, hlen, hcc⟩ := World.cells?_some hc
          have := hcc j hj
          rw [add_add] at this
          exact ⟨this, hlen⟩
        obtain ⟨y0, hy0, ⟨cs0, c1, _, _⟩, _⟩ := hq 0 (by omega)
        have hc0 := (cell 0 cs0 (by omega) c1 0 (by omega))
        have hsome : ∃ u, w.cell? a = some u := by
          have h1 := hc0.1
          rw [Nat.zero_mul, Nat.zero_add] at h1
          have : a.add 0 = a := by simp [Addr.add]
          rw [this] at h1
          rw [h1]
          exact ⟨cs0[0]'(by omega), List.getElem?_eq_getElem (by omega)⟩
        obtain ⟨u0, hu0⟩ := hsome
        have hspot : a.spot = none := by
          unfold World.cell? at hu0
          split at hu0
          · split at hu0
            · cases hu0
            · rename_i h; simpa using h
          · cases hu0
        obtain ⟨ab, ao, asp⟩ := a
        simp only at hspot
        subst hspot
        refine ⟨rfl, World.block_lt_of_cell? w _ hu0, ?_⟩
        rw [riRows_iff]
        intro i row hrow
        rw [List.getElem?_map, Option.map_eq_some_iff] at hrow
        obtain ⟨b, hb, rfl⟩ := hrow
        have hi : i < len := by have := (List.getElem?_eq_some_iff.1 hb).1; omega
        obtain ⟨y, hy, ⟨cs', g1, g2, g3⟩, _⟩ := hq i hi
        rw [hl'.2 i hi, hy] at hb
        simp at hb
        subst hb
        have hlen' := riL_length g2
        obtain ⟨_, hclen, _⟩ := World.cells?_some g1
        refine ⟨by omega, fun j v hj => ?_⟩
        obtain ⟨z, z1, z2⟩ := riL_get g2 j v hj
        have hjs : j < s := by have := (List.getElem?_eq_some_iff.1 z1).1; omega
        refine ⟨z, ?_, g3 z (List.mem_of_getElem? z1), z2⟩
        have := (cell i cs' hi g1 j hjs).1
        rw [add_lit, ← Nat.add_assoc] at this
        rw [this]; exact z1
    · obtain ⟨i, hi⟩ := List.mem_iff_getElem?.1 hb
      have hil : i < len := by have := (List.getElem?_eq_some_iff.1 hi).1; omega
      obtain ⟨y, hy, _, hok⟩ := hq i hil
      rw [hl'.2 i hil, hy] at hi
      simp at hi
      exact hi ▸ hok
theorem opensF_nil {total : Nat} : OpensF enc P w total total [] (fun _ : Unit => []) (fun _ => True) := by
  intro n cs hl _
  rw [List.drop_of_length_le (by omega)]
  exact ⟨(), by simp [riL], trivial, by simp⟩
theorem opensF_cons {total off k : Nat} {fd : Field} {fs : List Field} {α β : Type} {f : α → List V} {g : β → List V} {ok : α → Prop} {ok' : β → Prop} (ho : fd.offset = off) (hk : P.cellsOf fd.type = k)
    (h1 : Opens enc P w fd.type f ok) (h2 : OpensF enc P w total (off + k) fs g ok') : OpensF enc P w total off (fd :: fs) (fun x : α × β => f x.1 ++ g x.2) (fun x => ok x.1 ∧ ok' x.2) := by
  intro n cs hl hf
  obtain ⟨x, hx⟩ := hf fd (by simp)
  rw [ho, hk] at hx
  obtain ⟨a, a1, a2, a3⟩ := h1 _ _ _ hx
  obtain ⟨b, b1, b2, b3⟩ := h2 n cs hl (fun fd' h' => hf fd' (by simp [h']))
  have hsplit : cs.drop off = (cs.drop off).take k ++ cs.drop (off + k) := by rw [← List.drop_drop, List.take_append_drop]
  refine ⟨(a, b), ?_, ⟨a2, b2⟩, ?_⟩
  · rw [hsplit]; exact riL_append a1 b1
  · rw [hsplit]
    intro u hu
    rcases List.mem_append.1 hu with hu | hu
    · exact a3 u hu
    · exact b3 u hu
theorem opens_struct {t : TypeId} {fs : Array Field} {total : Nat} {α : Type} {f : α → List V} {ok : α → Prop} (ht : P.underlying t = some (.struct fs)) (hc : P.cellsOf t = total) (h : OpensF enc P w total 0 fs.toList f ok) : Opens enc P w t f ok := by
  intro fuel cs x hx
  obtain ⟨xs, n, _, _, hl, hxl, hf⟩ := DataW.trod_struct ht hx
  have := h n cs (by omega) (fun fd hfd => by
    obtain ⟨i, hi⟩ := List.mem_iff_getElem?.1 hfd
    have hi' : fs[i]? = some fd := by simpa using hi
    have := hf i fd hi'
    have hil : i < xs.length := by rw [hxl]; exact lt_of_some hi'
    rw [List.getElem?_eq_getElem hil] at this
    exact ⟨_, this⟩)
  simpa using this
theorem arg_struct {t : TypeId} {fs : Array Field} {v : Value} {d : DataW H} {p : List MemPlace} {r : Reach} {b0 : Nat} {α : Type} {f : α → List V} {ok : α → Prop} (ht : P.underlying t = some (.struct fs)) (hval : Value.okWide P w r b0 t v) (h : DataW.Trod enc P w 0 (fun _ => true) true t v d p)
    (ho : Opens enc P w t f ok) : ∃ a, ri (FW w) w (.agg (f a)) v ∧ ok a := by
  obtain ⟨cs, rfl, _⟩ := WideShapes.okWide_struct ht hval
  obtain ⟨fuel, hf⟩ := h
  obtain ⟨y, h1, h2, _⟩ := ho _ _ _ hf
  exact ⟨y, by simp only [ri]; exact ⟨cs, rfl, h1⟩, h2⟩
end
end Go.Proofs.YtbionhgjgcpogaaGreatDoor.Clean
namespace Go.Proofs.YtbionhgjgcpogaaGreatDoor.Clean
set_option linter.unusedVariables false
set_option linter.unusedSimpArgs false
mutual
def litC {H : Type} (P : Program) : Nat → TypeId → DataW H → Option (List V)
  | 0, _, _ => none
  | f + 1, t, d => match P.underlying t with
    | some (.int k) => match d with
      | .lit (.int k' n) => some [.raw (.int k n)]
      | _ => none
    | some (.struct fs) => match d with
      | .agg xs => litF P f (P.cellsOf t) fs.toList xs 0
      | _ => none
    | some (.array n e) => match d with
      | .agg xs => if P.cellsOf t = n * P.cellsOf e then litA P f e xs else none
      | _ => none
    | _ => none
def litF {H : Type} (P : Program) : Nat → Nat → List Field → List (DataW H) → Nat → Option (List V)
  | 0, _, _, _, _ => none
  | _ + 1, n, [], [], o => if n = o then some [] else none
  | f + 1, n, fd :: fs, x :: xs, o => if fd.offset = o then (litC P f fd.type x).bind fun a => (litF P f n fs xs (o + P.cellsOf fd.type)).bind fun b => if a.length = P.cellsOf fd.type then some (a ++ b) else none else none
  | _, _, _, _, _ => none
def litA {H : Type} (P : Program) : Nat → TypeId → List (DataW H) → Option (List V)
  | 0, _, _ => none
  | _ + 1, _, [] => some []
  | f + 1, e, x :: xs => (litC P f e x).bind fun a => (litA P f e xs).bind fun b => if a.length = P.cellsOf e then some (a ++ b) else none
end
section
variable {H : Type} {enc : TypeId × Value → H} {P : Program} {w : World} {b0 : Nat} {sp : Nat → Bool} {held : Bool}
def CellsOK (w : World) (vs : List V) (cs : List Value) : Prop := cs.length = vs.length ∧ ∀ (i : Nat) v x, vs[i]? = some v → cs[i]? = some x → x.oneCell' = true ∧ ri (FW w) w v x
theorem CellsOK.append {vs us : List V} {cs ds : List Value} (h : CellsOK w vs cs) (k : CellsOK w us ds) : CellsOK w (vs ++ us) (cs ++ ds) := by
  refine ⟨by simp [h.1, k.1], fun i v x hv hx => ?_⟩
  by_cases hi : i < vs.length
  · rw [List.getElem?_append_left hi] at hv
    rw [List.getElem?_append_left (by rw [h.1]; exact hi)] at hx
    exact h.2 i v x hv hx
  · rw [List.getElem?_append_right (by omega)] at hv
    rw [List.getElem?_append_right (by rw [h.1]; omega), h.1] at hx
    exact k.2 _ v x hv hx
theorem take_split (cs : List Value) (o n : Nat) : cs.drop o = (cs.drop o).take n ++ cs.drop (o + n) := by rw [← List.drop_drop, List.take_append_drop]
theorem lit_ok (f : Nat) :
    (∀ (t : TypeId) (d : DataW H) (vs : List V), litC P f t d = some vs → ∀ fuel cs x, DataW.trod enc P w b0 sp held fuel t cs = some x → x.1 = d → CellsOK w vs cs) ∧
    (∀ (fs : List Field) (xs : List (DataW H)) (o : Nat) (vs : List V) (cs : List Value), litF P f cs.length fs xs o = some vs → ∀ m (ys : List (DataW H × List MemPlace)), ys.map (·.1) = xs → (∀ (i : Nat) fd, fs[i]? = some fd → DataW.trod enc P w b0 sp held m fd.type ((cs.drop fd.offset).take (P.cellsOf fd.type)) = ys[i]?) → CellsOK w vs (cs.drop o)) ∧
    (∀ (e : TypeId) (xs : List (DataW H)) (o : Nat) (vs : List V) (cs : List Value), litA P f e xs = some vs → cs.length = o + xs.length * P.cellsOf e → ∀ m (ys : List (DataW H × List MemPlace)), ys.map (·.1) = xs → (∀ (i : Nat), i < xs.length → DataW.trod enc P w b0 sp held m e ((cs.drop (o + i * P.cellsOf e)).take (P.cellsOf e)) = ys[i]?) → CellsOK w vs (cs.drop o)) := by
  induction f with
  | zero => exact ⟨fun t d vs h => by simp [litC] at h, fun fs xs o vs cs h => by simp [litF] at h, fun e xs o vs cs h => by simp [litA] at h⟩
  | succ f ih =>
    obtain ⟨ihC, ihF, ihA⟩ := ih
    refine ⟨fun t d vs h fuel cs x hx hd => ?_, fun fs xs o vs cs h m ys hys hf => ?_, fun e xs o vs cs h hl m ys hys hf => ?_⟩
    · simp only [litC] at h
      split at h
      · rename_i k hk
        split at h
        · rename_i k' n
          cases h
          obtain ⟨m, rfl, h2, _⟩ := DataW.trod_int hk hx
          have hxd : x.1 = .lit (.int k m) := by rw [h2]
          rw [hd] at hxd
          simp only [DataW.lit.injEq, Lit.int.injEq] at hxd
          obtain ⟨_, rfl⟩ := hxd
          refine ⟨rfl, fun i v x hv hx => ?_⟩
          cases i with
          | zero => simp at hv hx; subst hv; subst hx; exact ⟨rfl, by simp [ri]⟩
          | succ i => simp at hv
        · cases h
      · rename_i fs hs
        split at h
        · rename_i xs
          obtain ⟨ys, n, _, hy, hl, hyl, hf⟩ := DataW.trod_struct hs hx
          have hxs : ys.map (·.1) = xs := by
            have := hd
            rw [hy] at this
            simpa using this
          rw [← hl] at h
          have := ihF fs.toList xs 0 vs cs h n ys hxs (fun i fd hi => hf i fd (by simpa using hi))
          simpa using this
        · cases h
      · rename_i n e ha
        split at h
        · rename_i xs
          split at h
          · rename_i hn
            obtain ⟨ys, m, _, hy, hl, hyl, hf⟩ := DataW.trod_array ha hx
            have hxs : ys.map (·.1) = xs := by
              have := hd
              rw [hy] at this
              simpa using this
            have hxl : xs.length = n := by rw [← hxs]; simpa using hyl
            have := ihA e xs 0 vs cs h (by rw [hl, hn, hxl]; omega) m ys hxs (fun i hi => by rw [Nat.zero_add]; exact hf i (by omega))
            simpa using this
          · cases h
        · cases h
      · cases h
    · cases fs with
      | nil =>
        cases xs with
        | nil =>
          simp only [litF] at h
          split at h
          · rename_i hn
            cases h
            subst hn
            refine ⟨by simp, fun i v x hv hx => by simp at hv⟩
          · cases h
        | cons x xs => simp [litF] at h
      | cons fd fs =>
        cases xs with
        | nil => simp [litF] at h
        | cons x xs =>
          simp only [litF] at h
          split at h
          · rename_i ho
            cases ha : litC P f fd.type x with
            | none => rw [ha] at h; cases h
            | some a =>
              cases hb : litF P f cs.length fs xs (o + P.cellsOf fd.type) with
              | none => rw [ha, hb] at h; cases h
              | some b =>
                rw [ha, hb] at h
                simp only [Option.bind_some] at h
                split at h
                · rename_i hal
                  cases h
                  cases ys with
                  | nil => simp at hys
                  | cons y ys =>
                    simp only [List.map_cons, List.cons.injEq] at hys
                    have h0 := hf 0 fd rfl
                    rw [ho] at h0
                    rw [take_split cs o (P.cellsOf fd.type)]
                    exact (ihC _ _ _ ha _ _ _ h0 hys.1).append (ihF fs xs _ b cs hb m ys hys.2 (fun i fd' hi => hf (i + 1) fd' (by simpa using hi)))
                · cases h
          · cases h
    · cases xs with
      | nil =>
        simp only [litA, Option.some.injEq] at h
        subst h
        refine ⟨by simp at hl ⊢; omega, fun i v x hv hx => by simp at hv⟩
      | cons x xs =>
        simp only [litA] at h
        cases ha : litC P f e x with
        | none => rw [ha] at h; cases h
        | some a =>
          cases hb : litA P f e xs with
          | none => rw [ha, hb] at h; cases h
          | some b =>
            rw [ha, hb] at h
            simp only [Option.bind_some] at h
            split at h
            · rename_i hal
              cases h
              cases ys with
              | nil => simp at hys
              | cons y ys =>
                simp only [List.map_cons, List.cons.injEq] at hys
                have h0 := hf 0 (by simp)
                rw [Nat.zero_mul, Nat.add_zero] at h0
                rw [take_split cs o (P.cellsOf e)]
                refine (ihC _ _ _ ha _ _ _ h0 hys.1).append (ihA e xs _ b cs hb (by rw [hl, List.length_cons, Nat.add_mul]; omega) m ys hys.2 (fun i hi => ?_))
                have := hf (i + 1) (by simpa using hi)
                rw [Nat.add_mul, Nat.one_mul] at this
                rw [show o + P.cellsOf e + i * P.cellsOf e = o + (i * P.cellsOf e + P.cellsOf e) by omega]
                simpa using this
            · cases h
end
structure LaidOne (P : Program) (g : Nat) (n : String) (d : DataW Unit) (vs : List V) : Prop where
  name : P.globalNamed n = some g
  cells : (((P.globals[g]?).map (·.type)).bind fun t => litC P 64 t d) = some vs
theorem riCells_of {F : Nat → Prop} {w : World} {b : Nat} : ∀ (vs : List V) (o : Nat), (∀ i v, vs[i]? = some v → ∃ x, w.cell? ⟨b, o + i, none⟩ = some x ∧ x.oneCell' = true ∧ ri F w v x) → riCells F w b vs o
  | [], o, _ => by simp only [riCells]
  | v :: vs, o, h => by
    simp only [riCells]
    refine ⟨by simpa using h 0 v rfl, riCells_of vs (o + 1) fun i v hi => ?_⟩
    have := h (i + 1) v (by simpa using hi)
    rwa [show o + (i + 1) = o + 1 + i by omega] at this
theorem laid_adr {P : Program} {w : World} {laid : List (String × DataW Unit)} (hp : (laid.all fun x => x.2.handleName?.isNone) = true) (h : laidMetH P laid w) {g : Nat} {n : String} {d : DataW Unit} {vs : List V} (hm : (n, d) ∈ laid) (ho : LaidOne P g n d vs) (hne : vs ≠ []) :
    ri (FW w) w (.adr vs 0) (.pointer (some ⟨g, 0, none⟩)) := by
  rw [MakeChecks.laidMetH_plain _ _ _ hp] at h
  obtain ⟨ps, hl, _⟩ := h
  have key : ∀ (l : List (String × DataW Unit)) (ps : List MemPlace), DataW.LaidVars P w l ps → (n, d) ∈ l → ∃ t cs fuel p, (P.globals[g]?).map (·.type) = some t ∧ w.var? P n = some cs ∧ DataW.trod (fun _ => ()) P w 0 (fun _ => true) false fuel t cs.toList = some (d, p) := by
    intro l
    induction l with
    | nil => intro ps _ hm; cases hm
    | cons a r ih =>
      obtain ⟨n', d'⟩ := a
      intro ps hl hm
      obtain ⟨g', t, cs, fuel, p, q, h1, h2, h3, h4, h5, _⟩ := hl
      rcases List.mem_cons.1 hm with he | he
      · cases he
        obtain rfl := Option.some.inj (ho.name.symm.trans h1)
        exact ⟨t, cs, fuel, p, h2, h3, h4⟩
      · exact ih q h5 he
  obtain ⟨t, cs, fuel, p, h1, h2, h3⟩ := key laid ps hl hm
  have k2 := ho.cells
  rw [h1, Option.bind_some] at k2
  have hc := (lit_ok 64).1 _ _ _ k2 _ _ _ h3 rfl
  have hv := World.var?_cell ho.name h2
  simp only [ri]
  have cell : ∀ i v, vs[i]? = some v → ∃ x, w.cell? ⟨g, 0 + i, none⟩ = some x ∧ x.oneCell' = true ∧ ri (FW w) w v x := by
    intro i v hi
    have hlt : i < vs.length := (List.getElem?_eq_some_iff.1 hi).1
    have hlt' : i < cs.toList.length := by rw [hc.1]; exact hlt
    obtain ⟨q1, q2⟩ := hc.2 i v _ hi (List.getElem?_eq_getElem hlt')
    refine ⟨cs.toList[i], ?_, q1, q2⟩
    rw [Nat.zero_add, hv i]
    simp at hlt' ⊢
  refine ⟨g, 0, by simp, ?_, riCells_of vs 0 cell⟩
  obtain ⟨v, r, rfl⟩ := List.exists_cons_of_ne_nil hne
  obtain ⟨x, hx, _⟩ := cell 0 v rfl
  show g < w.heap.size
  simp only [World.cell?] at hx
  cases hh : w.heap[0 + g]? with
  | none => rw [Nat.zero_add] at hh; rw [hh] at hx; simp at hx
  | some o => rw [Nat.zero_add] at hh; exact lt_of_some hh
end Go.Proofs.YtbionhgjgcpogaaGreatDoor.Clean
