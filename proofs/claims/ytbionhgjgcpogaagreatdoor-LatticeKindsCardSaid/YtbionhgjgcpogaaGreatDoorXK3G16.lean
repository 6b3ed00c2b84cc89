/- A part of the proof. -/
import Derived.ProofKit
import Derived.Deep.Slices
import Derived.Carry
import Derived.OpenShut
import Derived.MakeChecks
import Derived.FnData
import Derived.Deep.Strs
import Derived.Test.YtbionhgjgcpogaaGreatDoorXK3G7
import Derived.Test.YtbionhgjgcpogaaGreatDoorXK3G15
namespace Go.Proofs.YtbionhgjgcpogaaGreatDoor
open Go Go.Proofs.YtbionhgjgcpogaaGreatDoor.Clean
set_option linter.unusedVariables false
set_option linter.unusedSimpArgs false
set_option maxRecDepth 10000
theorem hcL : cfL.ok Tryz.prog := cfgG_ok (rtP_ok fN)
noncomputable def fam13 (l : List Kd) (s : Bool × Nat) : St := match s.1 with | false => sh13n l s.2 | true => sh13s l (l.take s.2) s.2 s.2
theorem twin13 {l : List Kd} {K : Nat → List (List V) → Prop} (hl : ∀ q ∈ l, KdR q) (hll : l.length ≤ 20) (h : ∀ s, (s = 3 ∨ l = []) → K s (kdl l)) : K0G Tryz.prog glX 13 [.lst 3 (kdl l)] fun v => onLst v fun s es => K s es := by
  generalize hR : (fun v => onLst v fun s es => K s es) = R
  refine K0_by hmX hcD 3000 Tryz.func13 (p := La 0 [(3 : Tmp), (6 : Tmp), (7 : Tmp), (8 : Tmp)] (WY Tryz.prog cfD 2994 (Env.mk (Bs.mk 0 []) 0 none 28 13 0) (cdAt [1, 1, 0, 1, 0, 0] (bodyOf Tryz.f13))) (Qblk 0 (Qthen (WY Tryz.prog cfD 2997 (Env.mk (Bs.mk 0 []) 0 none 28 13 0) (cdAt [1, 1, 1] (bodyOf Tryz.f13)) (QendX Tryz.prog Tryz.f13 fun v h => R (frzW h v))) (QendX Tryz.prog Tryz.f13 fun v h => R (frzW h v)))) (St.mk (mkT [(3, nilS), (6, V.lst 3 (kdl l)), (7, iv (↑(kdl l).length : Int)), (8, iv (0 : Int))]) (Hp.mk [] 0 []))) (by kernel_rfl) ?_
  refine La.of (σ := Bool × Nat) (fam13 l) (fun s => s.2 ≤ l.length ∧ (s.1 = false → s.2 = 0) ∧ (s.1 = true → 0 < s.2)) (fun s => l.length - s.2) (false, 0) (by kernel_rfl) ⟨by simp, fun _ => rfl, fun h => by cases h⟩ ?_
  rintro ⟨bb, i⟩ ⟨g1, g3, g4⟩ J hJ
  simp only at g1 g3 g4
  have clo : ∀ a : List Cl, sub ([] ++ cll a) 0 (0 + (cll a).length) = cll a := fun a => by rw [List.nil_append, Nat.zero_add, sub_cl]
  have klo : ∀ a : List Kn, sub ([] ++ knl a) 0 (0 + (knl a).length) = knl a := fun a => by rw [List.nil_append, Nat.zero_add, sub_kl]
  have stp : ∀ x, l[i]? = some x → i < l.length → KdR x ∧ J (sh13s l (l.take (i + 1)) (i + 1) (i + 1)) := fun x hx hi => ⟨hl x (mem_at hx), hJ (true, i + 1) ⟨hi, fun h => (by cases h), fun _ => Nat.succ_pos i⟩ (by simp only; omega)⟩
  cases bb with
  | false =>
    have hi := g3 rfl
    subst hi
    obtain ⟨i, hi0⟩ : ∃ i, i = 0 := ⟨0, rfl⟩
    have hst : fam13 l (false, 0) = sh13n l i := by rw [hi0]; rfl
    rw [hst]
    refine see (p := ifB (decide ((↑i : Int) < (↑(kdl l).length : Int))) (onSome (kdl l)[i]? fun row => onCons (List.drop 0 row) fun u r => onLst u fun s es => onCons r fun u r => onLst u fun s_1 es_1 => onCons r fun u r => onIntK IntKind.i64 u fun n => guardB (s.beq 3 || es.isEmpty) (need ((0 + es.length) * 24 ≤ 140737488355328) (guardB (s_1.beq 5 || es_1.isEmpty) (need ((0 + es_1.length) * 32 ≤ 140737488355328) (J (St.mk (mkT [(3, V.sl (Id.p 0) 0 1), (6, V.lst 3 (kdl l)), (7, iv (↑(kdl l).length : Int)), (8, iv (IntKind.i64.wrap ((↑i : Int) + (1 : Int))))]) (Hp.mk [(0, O.rows 3 true [[V.lst 3 (sub ([] ++ es) 0 (0 + es.length)), V.lst 5 (sub ([] ++ es_1) 0 (0 + es_1.length)), iv n]])] 1 []))))))) (R nilS)) (by kernel_rfl) ?_
    subst hi0
    rw [kdl_length]
    refine ifB_mk (fun d => ?_) (fun d => ?_)
    · have hi : 0 < l.length := by have := of_decide_eq_true d; omega
      obtain ⟨x, hx⟩ := getI hi
      obtain ⟨hr, hj⟩ := stp x hx hi
      refine del hx (guardB_mk rfl (need_mk ⟨by have := hr.2.1; rw [cll_length]; omega, guardB_mk rfl (need_mk ⟨by have := hr.2.2; rw [knl_length]; omega, ?_⟩)⟩))
      rw [clo, klo, wr1i hi (by omega)]
      rw [take_succ' hx] at hj
      rw [← kdl_length]
      exact hj
    · have e : l = [] := List.length_eq_zero_iff.1 (by have := of_decide_eq_false d; omega)
      rw [← hR]
      have := h 0 (.inr e)
      rw [e] at this
      exact onLst_nil this
  | true =>
    have hip := g4 rfl
    have hLl : (l.take i).length = i := by rw [List.length_take]; omega
    obtain ⟨n, hn⟩ : ∃ n, n = i := ⟨_, rfl⟩
    obtain ⟨L, hL⟩ : ∃ L, L = l.take i := ⟨_, rfl⟩
    have hst : fam13 l (true, i) = sh13s l L n i := by rw [hL, hn]; rfl
    rw [hst]
    refine see (p := ifB (decide ((↑i : Int) < (↑(kdl l).length : Int))) (onSome (kdl l)[i]? fun row => onCons (List.drop 0 row) fun u r => onLst u fun s es => onCons r fun u r => onLst u fun s_1 es_1 => onCons r fun u r => onIntK IntKind.i64 u fun n_1 => guardB (s.beq 3 || es.isEmpty) (need ((0 + es.length) * 24 ≤ 140737488355328) (guardB (s_1.beq 5 || es_1.isEmpty) (need ((0 + es_1.length) * 32 ≤ 140737488355328) (need ((n + 1) * 56 ≤ 140737488355328) (J (St.mk (mkT [(3, V.sl (Id.p 0) 0 (n + 1)), (6, V.lst 3 (kdl l)), (7, iv (↑(kdl l).length : Int)), (8, iv (IntKind.i64.wrap ((↑i : Int) + (1 : Int))))]) (Hp.mk [(0, O.rows 3 true (List.take n (kdl L) ++ [[V.lst 3 (sub ([] ++ es) 0 (0 + es.length)), V.lst 5 (sub ([] ++ es_1) 0 (0 + es_1.length)), iv n_1]]))] 1 [])))))))) (R (V.lst 3 (sub (kdl L) 0 n)))) (by kernel_rfl) ?_
    subst hn
    have hts : List.take n (kdl L) = kdl L := List.take_of_length_le (by rw [kdl_length, hL, hLl]; omega)
    refine ifB_mk (fun d => ?_) (fun d => ?_)
    · have hi : n < l.length := by rw [kdl_length] at d; have := of_decide_eq_true d; omega
      obtain ⟨x, hx⟩ := getI hi
      obtain ⟨hr, hj⟩ := stp x hx hi
      refine del hx (guardB_mk rfl (need_mk ⟨by have := hr.2.1; rw [cll_length]; omega, guardB_mk rfl (need_mk ⟨by have := hr.2.2; rw [knl_length]; omega, need_mk ⟨by omega, ?_⟩⟩)⟩))
      rw [clo, klo, wr1i hi (by omega), hts]
      rw [take_succ' hx, ← hL] at hj
      have e : kdl L ++ [[V.lst 3 (cll x.1), V.lst 5 (knl x.2.1), iv x.2.2]] = kdl (L ++ [x]) := by simp [kdl, kdr]
      rw [e]
      exact hj
    · have hi : n = l.length := by rw [kdl_length] at d; have := of_decide_eq_false d; omega
      have e : sub (kdl L) 0 n = kdl l := by
        rw [sub, List.drop_zero, hts, hL, List.take_of_length_le (by omega)]
      rw [e, ← hR]
      exact onLst_lst (h 3 (.inl rfl))
theorem ri_d {F : Nat → Prop} {w : World} {s : Nat} {l : List Kd} {x : Value} (h : s = 3 ∨ l = []) (hx : ri F w (.lst s (kdl l)) x) : ri F w (.lst 3 (kdl l)) x := by
  rcases h with rfl | rfl
  · exact hx
  · simpa [ri, kdl, riRows] using hx
theorem K0_d {f : FuncId} {s : Nat} {l : List Kd} {r : List V} {R : V → Prop} (hs : s = 3 ∨ l = []) (h : K0G Tryz.prog glX f (.lst 3 (kdl l) :: r) R) : K0G Tryz.prog glX f (.lst s (kdl l) :: r) R :=
  K0_args h (fun F w xs hx => by
    simp only [riL] at hx ⊢
    obtain ⟨x, r, e, h1, h2⟩ := hx
    exact ⟨x, r, e, ri_d hs h1, h2⟩)
theorem KB_d {f : FuncId} {s : Nat} {l : List Kd} {r : List V} {R : V → Prop} (hs : s = 3 ∨ l = []) (h : KB Tryz.prog glX f (.lst 3 (kdl l) :: r) ⟨[], 0, []⟩ R) : KB Tryz.prog glX f (.lst s (kdl l) :: r) ⟨[], 0, []⟩ R := fun ν F w xs g1 g2 g3 => h ν F w xs g1 g2 (by
    simp only [repL, rep] at g3 ⊢
    obtain ⟨x, r, e, h1, h2⟩ := g3
    exact ⟨x, r, e, ri_d hs h1, h2⟩)
set_option maxHeartbeats 1000000 in
theorem same28 {l : List Kd} {R : V → Prop} (hl : ∀ q ∈ l, KdR q) (hll : l.length ≤ 20) (h : R (bv true)) : K0G Tryz.prog glX 28 [.lst 3 (kdl l), .lst 3 (kdl l)] R := by
  obtain ⟨a, ha⟩ : ∃ a, a = l := ⟨_, rfl⟩
  obtain ⟨b, hb⟩ : ∃ b, b = l := ⟨_, rfl⟩
  have hgoal : K0G Tryz.prog glX 28 [.lst 3 (kdl a), .lst 3 (kdl b)] R := by
    refine K0_by hmX hcD 3000 Tryz.func28 (p := ifB ((↑(kdl a).length : Int) != (↑(kdl b).length : Int)) (R (bv false)) (La 0 [(0 : Tmp), (1 : Tmp), (13 : Tmp), (14 : Tmp)] (WY Tryz.prog cfD 2994 (Env.mk (Bs.mk 0 []) 0 none 85 28 0) (cdAt [1, 1, 0, 1, 0, 0] (bodyOf Tryz.f28))) (Qblk 0 (Qthen (WY Tryz.prog cfD 2997 (Env.mk (Bs.mk 0 []) 0 none 85 28 0) (cdAt [1, 1, 1] (bodyOf Tryz.f28)) (QendX Tryz.prog Tryz.f28 fun v h => R (frzW h v))) (QendX Tryz.prog Tryz.f28 fun v h => R (frzW h v)))) (St.mk (mkT [(0, V.lst 3 (kdl a)), (1, V.lst 3 (kdl b)), (13, iv (↑(kdl a).length : Int)), (14, iv (0 : Int))]) (Hp.mk [] 0 [])))) (by kernel_rfl) ?_
    refine ifB_f (by rw [kdl_length, kdl_length, ha, hb]; simp) ?_
    refine La.of (σ := Nat) (fun i => sh28a a b i) (fun i => i ≤ l.length) (fun i => l.length - i) 0 (by kernel_rfl) (by omega) ?_
    intro i g1 J hJ
    refine see (p := ifB (decide ((↑i : Int) < (↑(kdl a).length : Int))) (onSome (kdl a)[i]? fun row => onSome row[2]? fun v => onIntK IntKind.i64 v fun n => onSome (kdl b)[i]? fun row => onSome row[2]? fun v => onIntK IntKind.i64 v fun n_1 => ifB (n != n_1) (R (bv false)) (onSome (kdl a)[i]? fun row => onSome row[0]? fun v => onLst v fun s es => onSome (kdl b)[i]? fun row => onSome row[0]? fun v => onLst v fun s_1 es_1 => K0G Tryz.prog glX 23 [V.lst s es, V.lst s_1 es_1] fun v => onBool v fun b_1 => ifB (!b_1) (R (bv false)) (onSome (kdl a)[i]? fun row => onSome row[1]? fun v => onLst v fun s es => onSome (kdl b)[i]? fun row => onSome row[1]? fun v => onLst v fun s es_2 => ifB ((↑es.length : Int) != (↑es_2.length : Int)) (R (bv false)) (onSome (kdl a)[i]? fun row => onSome row[1]? fun v => onLst v fun s es => La 0 [(0 : Tmp), (1 : Tmp), (5 : Tmp), (13 : Tmp), (14 : Tmp), (62 : Tmp), (63 : Tmp)] (WY Tryz.prog cfD 2985 (Env.mk (Bs.mk 0 []) 0 none 85 28 2) (cdAt [1, 1, 0, 1, 0, 0, 1, 1, 0, 0, 1, 1, 1, 0, 0] (bodyOf Tryz.f28))) (Qblk 2 (Qblk 1 (Qthen (WY Tryz.prog cfD 2991 (Env.mk (Bs.mk 0 []) 0 none 85 28 0) (cdAt [1, 1, 0, 1, 0, 0, 1, 1, 1] (bodyOf Tryz.f28)) (Qla 0 [(0 : Tmp), (1 : Tmp), (13 : Tmp), (14 : Tmp)] J (Qblk 0 (Qthen (WY Tryz.prog cfD 2997 (Env.mk (Bs.mk 0 []) 0 none 85 28 0) (cdAt [1, 1, 1] (bodyOf Tryz.f28)) (QendX Tryz.prog Tryz.f28 fun v h => R (frzW h v))) (QendX Tryz.prog Tryz.f28 fun v h => R (frzW h v)))))) (Qla 0 [(0 : Tmp), (1 : Tmp), (13 : Tmp), (14 : Tmp)] J (Qblk 0 (Qthen (WY Tryz.prog cfD 2997 (Env.mk (Bs.mk 0 []) 0 none 85 28 0) (cdAt [1, 1, 1] (bodyOf Tryz.f28)) (QendX Tryz.prog Tryz.f28 fun v h => R (frzW h v))) (QendX Tryz.prog Tryz.f28 fun v h => R (frzW h v)))))))) (St.mk (mkT [(0, V.lst 3 (kdl a)), (1, V.lst 3 (kdl b)), (5, iv (↑i : Int)), (13, iv (↑(kdl a).length : Int)), (14, iv (↑i : Int)), (62, iv (↑es.length : Int)), (63, iv (0 : Int))]) (Hp.mk [] 0 [])))))) (R (bv true))) (by kernel_rfl) ?_
    refine ifB_mk (fun d => ?_) (fun d => h)
    have hi : i < l.length := by rw [kdl_length, ha] at d; have := of_decide_eq_true d; omega
    obtain ⟨x, hx⟩ := getI hi
    have hr := hl x (mem_at hx)
    have xa : (kdl a)[i]? = some (kdr x) := by rw [ha]; simp [kdl, hx]
    have xb : (kdl b)[i]? = some (kdr x) := by rw [hb]; simp [kdl, hx]
    refine onSome_mk xa (onSome_mk (rfl : (kdr x)[2]? = some (iv x.2.2)) (onIntK_iv (onSome_mk xb (onSome_mk (rfl : (kdr x)[2]? = some (iv x.2.2)) (onIntK_iv (ifB_f (by simp) ?_))))))
    refine onSome_mk xa (onSome_mk (rfl : (kdr x)[0]? = some (.lst 3 (cll x.1))) (onLst_lst (onSome_mk xb (onSome_mk (rfl : (kdr x)[0]? = some (.lst 3 (cll x.1))) (onLst_lst (same23 (by have := hr.2.1; omega) (onBool_bv (ifB_f (by rw [dc_t rfl]; rfl) ?_))))))))
    refine onSome_mk xa (onSome_mk (rfl : (kdr x)[1]? = some (.lst 5 (knl x.2.1))) (onLst_lst (onSome_mk xb (onSome_mk (rfl : (kdr x)[1]? = some (.lst 5 (knl x.2.1))) (onLst_lst (ifB_f (by simp) (onSome_mk xa (onSome_mk (rfl : (kdr x)[1]? = some (.lst 5 (knl x.2.1))) (onLst_lst ?_)))))))))
    obtain ⟨m, hm⟩ : ∃ m, m = (knl x.2.1).length := ⟨_, rfl⟩
    rw [← hm]
    have hml : m = x.2.1.length := by rw [hm, knl_length]
    refine La.of (σ := Nat) (fun k => sh28b a b m i k) (fun k => k ≤ m) (fun k => m - k) 0 (by kernel_rfl) (by omega) ?_
    intro k f1 I hI
    refine see (p := ifB (decide ((↑k : Int) < (↑m : Int))) (onSome (kdl a)[i]? fun row => onSome row[1]? fun v => onLst v fun s es => need (s = 5) (onSome es[k]? fun row => onCons (List.drop 0 row) fun u r => onIntK IntKind.i64 u fun n => onCons r fun u r => onIntK IntKind.i64 u fun n_1 => onCons r fun u r => onIntK IntKind.i64 u fun n_2 => onCons r fun u r => onIntK IntKind.u8 u fun n_3 => onCons r fun u r => onIntK IntKind.u8 u fun n_4 => onSome (kdl b)[i]? fun row => onSome row[1]? fun v => onLst v fun s es => need (s = 5) (onSome es[k]? fun row => onCons (List.drop 0 row) fun u r => onIntK IntKind.i64 u fun n_5 => onCons r fun u r => onIntK IntKind.i64 u fun n_6 => onCons r fun u r => onIntK IntKind.i64 u fun n_7 => onCons r fun u r => onIntK IntKind.u8 u fun n_8 => onCons r fun u r => onIntK IntKind.u8 u fun n_9 => ifB (!(fun b => (fun b => n == n_5 && b) ((fun b => n_1 == n_6 && b) ((fun b => n_2 == n_7 && b) true)) && b) ((fun b => n_3 == n_8 && b) ((fun b => n_4 == n_9 && b) true))) (R (bv false)) (I (St.mk (mkT [(0, V.lst 3 (kdl a)), (1, V.lst 3 (kdl b)), (5, iv (↑i : Int)), (13, iv (↑(kdl a).length : Int)), (14, iv (↑i : Int)), (62, iv (↑m : Int)), (63, iv (IntKind.i64.wrap ((↑k : Int) + (1 : Int))))]) (Hp.mk [] 0 [])))))) (J (St.mk (mkT [(0, V.lst 3 (kdl a)), (1, V.lst 3 (kdl b)), (13, iv (↑(kdl a).length : Int)), (14, iv (IntKind.i64.wrap ((↑i : Int) + (1 : Int))))]) (Hp.mk [] 0 [])))) (by kernel_rfl) ?_
    refine ifB_mk (fun d => ?_) (fun d => ?_)
    · have hk : k < m := by have := of_decide_eq_true d; omega
      obtain ⟨y, hy⟩ := getI (l := x.2.1) (k := k) (by omega)
      refine onSome_mk xa (onSome_mk (rfl : (kdr x)[1]? = some (.lst 5 (knl x.2.1))) (onLst_lst (need_mk ⟨rfl, kel hy (onSome_mk xb (onSome_mk (rfl : (kdr x)[1]? = some (.lst 5 (knl x.2.1))) (onLst_lst (need_mk ⟨rfl, kel hy (ifB_f (by simp) ?_)⟩))))⟩)))
      rw [wr1i hk (by have := hr.2.2; omega)]
      exact hI (k + 1) hk (by omega)
    · rw [wr1i hi (by omega)]
      exact hJ (i + 1) hi (by omega)
  rw [ha, hb] at hgoal
  exact hgoal
theorem great12' {l : List Kd} {R : V → Prop} (h : R (bv (dc (GreatP l [])))) : K0G Tryz.prog glX 12 [.lst 3 (kdl l), .agg [nilS]] R :=
  K0_args (great12 (m := []) h) (fun F w xs hx => by
    simp [riL, ri, riRows, bkl, nilS] at hx ⊢
    obtain ⟨x, r, e, h1, y, e2, vs, e3, e4⟩ := hx
    exact ⟨x, r, e, h1, y, e2, vs, e3, _, e4, .inl rfl⟩)
theorem cset {L : List Cl} {i : Nat} {c : Cl} {w : Int} : (cll L).set (0 + i) (iv w :: List.append [] (List.drop 1 (clr c))) = cll (L.set i (w, c.2.1, c.2.2)) := by rw [Nat.zero_add]; simp [cll, List.map_set, clr]
theorem kset {L : List Kn} {i : Nat} {c : Kn} {w : Int} : (knl L).set (0 + i) (List.take 3 (knr c) ++ [V.raw (Value.int IntKind.u8 w)] ++ List.drop 4 (knr c)) = knl (L.set i (c.1, w, c.2.2)) := by rw [Nat.zero_add]; simp [knl, List.map_set, knr, u8]
theorem kget {L : List Kn} {i : Nat} {c : Kn} (h : L[i]? = some c) : (knl L)[0 + i]? = some (knr c) := by rw [Nat.zero_add]; simp [knl, h]
theorem kel0 {l : List Kn} {i : Nat} {c : Kn} {k : Int → Int → Int → Int → Int → Prop} (h : l[i]? = some c) (hk : k c.1.1 c.1.2.1 c.1.2.2 c.2.1 c.2.2) : onSome (knl l)[0 + i]? fun row => onCons (List.drop 0 row) fun u r => onIntK IntKind.i64 u fun n => onCons r fun u r => onIntK IntKind.i64 u fun n_1 => onCons r fun u r => onIntK IntKind.i64 u fun n_2 => onCons r fun u r => onIntK IntKind.u8 u fun n_3 => onCons r fun u r => onIntK IntKind.u8 u fun n_4 => k n n_1 n_2 n_3 n_4 := by
  rw [Nat.zero_add]; exact kel h hk
theorem same23n {R : V → Prop} (h : R (bv true)) : K0G Tryz.prog glX 23 [.lst 3 (sub [] 0 ([] : List (List V)).length), .lst 0 []] R :=
  K0_args (same23 (a := []) (b := []) (by simp) (by rw [dc_t rfl]; exact h)) (fun F w xs hx => by
    simpa [riL, ri, riRows, cll, sub] using hx)
theorem same20n {R : V → Prop} (h : R (bv true)) : K0G Tryz.prog glX 20 [.lst 0 [], .lst 0 []] R :=
  K0_args (same20 (a := []) (b := []) (by simp) (by rw [dc_t rfl]; exact h)) (fun F w xs hx => by
    simpa [riL, ri, riRows, nl] using hx)
theorem onN {b : Bk} {e : Int} {k : Int → Int → Int → Int → Int → Int → Int → Prop} (h : k b.1 b.2.1.1 b.2.1.2.1 b.2.1.2.2 b.2.2.1 b.2.2.2 e) : onTup (V.tup [V.agg (bkr b), iv e]) fun vs => onCons vs fun u r => onAgg u fun cs => onCons cs fun u r_1 => onIntK IntKind.i64 u fun n_1 => onCons r_1 fun u r_2 => onIntK IntKind.i64 u fun n_2 => onCons r_2 fun u r_3 => onIntK IntKind.i64 u fun n_3 => onCons r_3 fun u r_4 => onIntK IntKind.i64 u fun n_4 => onCons r_4 fun u r_5 => onIntK IntKind.u8 u fun n_5 => onCons r_5 fun u r_6 => onIntK IntKind.u8 u fun n_6 => onNil r_6 (onCons r fun u r => onIntK IntKind.i64 u fun b_1 => onNil r (k n_1 n_2 n_3 n_4 n_5 n_6 b_1)) := h
theorem PutB.same {l : List Kd} {b : Bk} {q q' : Kd} {n n' : Nat} (h : PutB l b q n) (h' : PutB l b q' n') : q = q' ∧ n = n' := by
  have e := h.at_
  rw [h'.at_] at e
  have t := h.turn
  rw [h'.turn] at t
  exact ⟨by cases e; rfl, by omega⟩
theorem GreatP.not {l : List Kd} (h : ¬ GreatP l []) (hr : ∀ q ∈ l, ∀ k ∈ q.2.1, KnR k) : l.length ≤ 20 ∧ ∀ q ∈ l, KdR q := by
  refine ⟨Nat.le_of_not_lt fun x => h (.inl x), fun q hq => ⟨hr q hq, Nat.le_of_not_lt fun x => h (.inr (.inr ⟨q, hq, .inl x⟩)), Nat.le_of_not_lt fun x => h (.inr (.inr ⟨q, hq, .inr x⟩))⟩⟩
set_option maxHeartbeats 4000000 in
theorem law3 {k : Kd} {l : List Kd} {b : Bk} {R : V → Prop} (hk : ∀ x ∈ k.2.1, KnR x) (hlk : ∀ q ∈ l, ∀ x ∈ q.2.1, KnR x) (hb : BkR b) (h : R (bv true)) : K0G Tryz.prog glX 3 [.agg (kdr k), .lst 3 (kdl l), .agg (bkr b)] R := by
  refine K0_by hmX hcL 3000 Tryz.func3 (p := K0G Tryz.prog glX 12 [V.lst 3 [[V.lst 3 (cll k.1), V.lst 5 (knl k.2.1), iv k.2.2]], V.agg [nilS]] fun v => onBool v fun b_1 => ifB b_1 (R (bv true)) (K0G Tryz.prog glX 12 [V.lst 3 (kdl l), V.agg [nilS]] fun v => onBool v fun b_2 => ifB b_2 (R (bv true)) (K0G Tryz.prog glX 13 [V.lst 3 (kdl l)] fun v => onLst v fun s es => K0G Tryz.prog glX 14 [V.agg [V.lst 3 (cll k.1), V.lst 5 (knl k.2.1), iv k.2.2]] fun v => onIntK IntKind.i64 v fun n => K0G Tryz.prog glX 15 [V.agg [V.lst 3 (cll k.1), V.lst 5 (knl k.2.1), iv k.2.2]] fun v => onIntK IntKind.i64 v fun n_1 => ifB (n != n_1) (R (bv false)) (K0G Tryz.prog glX 16 [V.lst s es] fun v => onIntK IntKind.i64 v fun n => K0G Tryz.prog glX 17 [V.lst 3 (kdl l)] fun v => onIntK IntKind.i64 v fun n_2 => ifB (n != n_2) (R (bv false)) (K0G Tryz.prog glX 18 [V.agg [V.lst 3 (cll k.1), V.lst 5 (knl k.2.1), iv k.2.2]] fun v => onTup v fun vs => onCons vs fun u r => onLst u fun s_1 es_1 => onCons r fun u r => onIntK IntKind.i64 u fun n => onNil r (K0G Tryz.prog glX 19 [V.agg [V.lst 3 (cll k.1), V.lst 5 (knl k.2.1), iv k.2.2]] fun v => onTup v fun vs => onCons vs fun u r => onLst u fun s_2 es_2 => onCons r fun u r => onIntK IntKind.i64 u fun n_3 => onNil r (K0G Tryz.prog glX 20 [V.lst s_1 es_1, V.lst s_2 es_2] fun v => onBool v fun b_3 => ifB (!b_3) (R (bv false)) (ifB (n != n_3) (R (bv false)) (KB Tryz.prog glX 21 [V.lst s es, V.agg [iv b.1, iv b.2.1.1, iv b.2.1.2.1, iv b.2.1.2.2, V.raw (Value.int IntKind.u8 b.2.2.1), V.raw (Value.int IntKind.u8 b.2.2.2)]] (Hp.mk [] 0 []) fun v => onTup v fun vs => onCons vs fun u r => onLst u fun s_3 es_3 => guardB (s_3.beq 3 || s_3.beq 0) (onCons r fun u r => onIntK IntKind.i64 u fun n => onNil r (K0G Tryz.prog glX 22 [V.lst 3 (kdl l), V.agg [iv b.1, iv b.2.1.1, iv b.2.1.2.1, iv b.2.1.2.2, V.raw (Value.int IntKind.u8 b.2.2.1), V.raw (Value.int IntKind.u8 b.2.2.2)]] fun v => onTup v fun vs => onCons vs fun u r => onLst u fun s_4 es_4 => onCons r fun u r => onIntK IntKind.i64 u fun n_4 => onNil r (K0G Tryz.prog glX 23 [V.lst 3 (sub es_3 0 es_3.length), V.lst s_4 es_4] fun v => onBool v fun b_4 => ifB (!b_4) (R (bv false)) (ifB (n != n_4) (R (bv false)) (La 0 [(1 : Tmp), (5 : Tmp), (7 : Tmp), (12 : Tmp), (84 : Tmp), (85 : Tmp)] (WY Tryz.prog cfL 2986 (Env.mk (Bs.mk 0 []) 0 none 167 3 0) (cdAt [1, 1, 1, 1, 1, 1, 1, 1, 1, 1, 0, 1, 0, 0] (bodyOf Tryz.f3))) (Qblk 0 (Qthen (WY Tryz.prog cfL 2989 (Env.mk (Bs.mk 0 []) 0 none 167 3 0) (cdAt [1, 1, 1, 1, 1, 1, 1, 1, 1, 1, 1] (bodyOf Tryz.f3)) (QendX Tryz.prog Tryz.f3 fun v h => R (frzW h v))) (QendX Tryz.prog Tryz.f3 fun v h => R (frzW h v)))) (St.mk (mkT [(1, V.lst 3 (kdl l)), (5, V.ptr (Id.p 0) 0 0), (7, V.lst s es), (12, V.sl (Id.p 1) 0 es_3.length), (84, iv (↑es_3.length : Int)), (85, iv (0 : Int))]) (Hp.mk [(0, O.rows 6 false [[iv b.1, iv b.2.1.1, iv b.2.1.2.1, iv b.2.1.2.2, V.raw (Value.int IntKind.u8 b.2.2.1), V.raw (Value.int IntKind.u8 b.2.2.2)]]), (1, O.rows 3 true es_3)] 2 [])))))))))))))))) (by kernel_rfl) ?_
  refine great12' (l := [k]) (onBool_bv (ifB_mk (fun _ => h) (fun c1 => great12' (onBool_bv (ifB_mk (fun _ => h) (fun c2 => ?_))))))
  obtain ⟨_, hkr⟩ := (GreatP.not (dc_false c1)) (fun q hq => by rw [List.mem_singleton.1 hq]; exact hk)
  have hkd := hkr k (by simp)
  obtain ⟨hl20, hl⟩ := (GreatP.not (dc_false c2)) hlk
  have hll : (l.length : Int) ≤ 1000000 := by omega
  clear c1 c2 hkr
  refine twin13 hl hl20 (fun s hs => ?_)
  obtain ⟨es, hes⟩ : ∃ es, es = kdl l := ⟨_, rfl⟩
  have hask : ∀ {e e' : Int}, askE l b e → askE l b e' → e = e' := fun x y => x.uniq y
  have rest : ∀ es, es = kdl l → KB Tryz.prog glX 21 [V.lst s es, V.agg [iv b.1, iv b.2.1.1, iv b.2.1.2.1, iv b.2.1.2.2, V.raw (Value.int IntKind.u8 b.2.2.1), V.raw (Value.int IntKind.u8 b.2.2.2)]] (Hp.mk [] 0 []) fun v => onTup v fun vs => onCons vs fun u r => onLst u fun s_3 es_3 => guardB (s_3.beq 3 || s_3.beq 0) (onCons r fun u r => onIntK IntKind.i64 u fun n => onNil r (K0G Tryz.prog glX 22 [V.lst 3 (kdl l), V.agg [iv b.1, iv b.2.1.1, iv b.2.1.2.1, iv b.2.1.2.2, V.raw (Value.int IntKind.u8 b.2.2.1), V.raw (Value.int IntKind.u8 b.2.2.2)]] fun v => onTup v fun vs => onCons vs fun u r => onLst u fun s_4 es_4 => onCons r fun u r => onIntK IntKind.i64 u fun n_4 => onNil r (K0G Tryz.prog glX 23 [V.lst 3 (sub es_3 0 es_3.length), V.lst s_4 es_4] fun v => onBool v fun b_4 => ifB (!b_4) (R (bv false)) (ifB (n != n_4) (R (bv false)) (La 0 [(1 : Tmp), (5 : Tmp), (7 : Tmp), (12 : Tmp), (84 : Tmp), (85 : Tmp)] (WY Tryz.prog cfL 2986 (Env.mk (Bs.mk 0 []) 0 none 167 3 0) (cdAt [1, 1, 1, 1, 1, 1, 1, 1, 1, 1, 0, 1, 0, 0] (bodyOf Tryz.f3))) (Qblk 0 (Qthen (WY Tryz.prog cfL 2989 (Env.mk (Bs.mk 0 []) 0 none 167 3 0) (cdAt [1, 1, 1, 1, 1, 1, 1, 1, 1, 1, 1] (bodyOf Tryz.f3)) (QendX Tryz.prog Tryz.f3 fun v h => R (frzW h v))) (QendX Tryz.prog Tryz.f3 fun v h => R (frzW h v)))) (St.mk (mkT [(1, V.lst 3 (kdl l)), (5, V.ptr (Id.p 0) 0 0), (7, V.lst s es), (12, V.sl (Id.p 1) 0 es_3.length), (84, iv (↑es_3.length : Int)), (85, iv (0 : Int))]) (Hp.mk [(0, O.rows 6 false [[iv b.1, iv b.2.1.1, iv b.2.1.2.1, iv b.2.1.2.2, V.raw (Value.int IntKind.u8 b.2.2.1), V.raw (Value.int IntKind.u8 b.2.2.2)]]), (1, O.rows 3 true es_3)] 2 []))))))) := by
    intro es hes
    have kbd : ∀ {f : FuncId} {r : List V} {R' : V → Prop}, KB Tryz.prog glX f (.lst 3 (kdl l) :: r) ⟨[], 0, []⟩ R' → KB Tryz.prog glX f (.lst s es :: r) ⟨[], 0, []⟩ R' := fun x => by rw [hes]; exact KB_d hs x
    have k0d : ∀ {f : FuncId} {r : List V} {R' : V → Prop}, K0G Tryz.prog glX f (.lst 3 (kdl l) :: r) R' → K0G Tryz.prog glX f (.lst s es :: r) R' := fun x => by rw [hes]; exact K0_d hs x
    have tl : ∀ (L : List Cl) es_3, es_3 = cll L → L.length ≤ 30 → La 0 [(1 : Tmp), (5 : Tmp), (7 : Tmp), (12 : Tmp), (84 : Tmp), (85 : Tmp)] (WY Tryz.prog cfL 2986 (Env.mk (Bs.mk 0 []) 0 none 167 3 0) (cdAt [1, 1, 1, 1, 1, 1, 1, 1, 1, 1, 0, 1, 0, 0] (bodyOf Tryz.f3))) (Qblk 0 (Qthen (WY Tryz.prog cfL 2989 (Env.mk (Bs.mk 0 []) 0 none 167 3 0) (cdAt [1, 1, 1, 1, 1, 1, 1, 1, 1, 1, 1] (bodyOf Tryz.f3)) (QendX Tryz.prog Tryz.f3 fun v h => R (frzW h v))) (QendX Tryz.prog Tryz.f3 fun v h => R (frzW h v)))) (St.mk (mkT [(1, V.lst 3 (kdl l)), (5, V.ptr (Id.p 0) 0 0), (7, V.lst s es), (12, V.sl (Id.p 1) 0 es_3.length), (84, iv (↑es_3.length : Int)), (85, iv (0 : Int))]) (Hp.mk [(0, O.rows 6 false [[iv b.1, iv b.2.1.1, iv b.2.1.2.1, iv b.2.1.2.2, V.raw (Value.int IntKind.u8 b.2.2.1), V.raw (Value.int IntKind.u8 b.2.2.2)]]), (1, O.rows 3 true es_3)] 2 [])) := by
      intro L0 es_3 h3 hL0
      obtain ⟨m, hm⟩ : ∃ m, m = es_3.length := ⟨_, rfl⟩
      have hmL : m = L0.length := by rw [hm, h3, cll_length]
      rw [← hm]
      refine La.of (σ := List Cl × Nat) (fun x => sh3a l s es b x.1 m x.2) (fun x => x.1.length = m ∧ x.2 ≤ m) (fun x => m - x.2) (L0, 0) (by rw [h3]; kernel_rfl) ⟨by simp only; omega, by simp⟩ ?_
      rintro ⟨L, i⟩ ⟨g1, g2⟩ J hJ
      simp only at g1 g2
      refine see (p := ifB (decide ((↑i : Int) < (↑m : Int))) (need (i < m) (onSome (cll L)[0 + i]? fun row => onSome row[0]? fun v => onIntK IntKind.i64 v fun n => need (i < m) (onSome (cll L)[0 + i]? fun row => guardB ((0 + 1).ble row.length) (J (St.mk (mkT [(1, V.lst 3 (kdl l)), (5, V.ptr (Id.p 0) 0 0), (7, V.lst s es), (12, V.sl (Id.p 1) 0 m), (84, iv (↑m : Int)), (85, iv (IntKind.i64.wrap ((↑i : Int) + (1 : Int))))]) (Hp.mk [(0, O.rows 6 false [[iv b.1, iv b.2.1.1, iv b.2.1.2.1, iv b.2.1.2.2, V.raw (Value.int IntKind.u8 b.2.2.1), V.raw (Value.int IntKind.u8 b.2.2.2)]]), (1, O.rows 3 true ((cll L).set (0 + i) (iv (IntKind.i64.wrap (n + (1 : Int))) :: (List.append []) (List.drop 1 row))))] 2 [])))))) (KB Tryz.prog glX 24 [V.lst s es, V.agg [iv b.1, iv b.2.1.1, iv b.2.1.2.1, iv b.2.1.2.2, V.raw (Value.int IntKind.u8 b.2.2.1), V.raw (Value.int IntKind.u8 b.2.2.2)]] (Hp.mk [] 0 []) fun v => onTup v fun vs => onCons vs fun u r => onLst u fun s_1 es_1 => guardB (s_1.beq 5 || s_1.beq 0) (onCons r fun u r => onIntK IntKind.i64 u fun n => onNil r (K0G Tryz.prog glX 25 [V.lst 3 (kdl l), V.agg [iv b.1, iv b.2.1.1, iv b.2.1.2.1, iv b.2.1.2.2, V.raw (Value.int IntKind.u8 b.2.2.1), V.raw (Value.int IntKind.u8 b.2.2.2)]] fun v => onTup v fun vs => onCons vs fun u r => onLst u fun s_2 es_2 => onCons r fun u r => onIntK IntKind.i64 u fun n_1 => onNil r (ifB ((↑es_1.length : Int) != (↑es_2.length : Int)) (R (bv false)) (ifB (n != n_1) (R (bv false)) (La 0 [(1 : Tmp), (5 : Tmp), (7 : Tmp), (15 : Tmp), (16 : Tmp), (120 : Tmp), (121 : Tmp)] (WY Tryz.prog cfL 2982 (Env.mk (Bs.mk 0 []) 0 none 167 3 2) (cdAt [1, 1, 1, 1, 1, 1, 1, 1, 1, 1, 1, 1, 1, 1, 0, 1, 0, 0] (bodyOf Tryz.f3))) (Qblk 2 (Qthen (WY Tryz.prog cfL 2985 (Env.mk (Bs.mk 0 []) 0 none 167 3 0) (cdAt [1, 1, 1, 1, 1, 1, 1, 1, 1, 1, 1, 1, 1, 1, 1] (bodyOf Tryz.f3)) (QendX Tryz.prog Tryz.f3 fun v h => R (frzW h v))) (QendX Tryz.prog Tryz.f3 fun v h => R (frzW h v)))) (St.mk (mkT [(1, V.lst 3 (kdl l)), (5, V.ptr (Id.p 0) 0 0), (7, V.lst s es), (15, V.sl (Id.p 1) 0 es_1.length), (16, V.lst s_2 es_2), (120, iv (↑es_1.length : Int)), (121, iv (0 : Int))]) (Hp.mk [(0, O.rows 6 false [[iv b.1, iv b.2.1.1, iv b.2.1.2.1, iv b.2.1.2.2, V.raw (Value.int IntKind.u8 b.2.2.1), V.raw (Value.int IntKind.u8 b.2.2.2)]]), (1, O.rows 5 true es_1)] 2 []))))))))) (by kernel_rfl) ?_
      refine ifB_mk (fun d => ?_) (fun d => ?_)
      · have hi : i < m := by have := of_decide_eq_true d; omega
        obtain ⟨c, hc⟩ := getI (l := L) (k := i) (by omega)
        refine need_mk ⟨hi, onSome_mk (cll_get hc) (onSome_mk (rfl : (clr c)[0]? = some (iv c.1)) (onIntK_iv (need_mk ⟨hi, onSome_mk (cll_get hc) (guardB_mk rfl ?_)⟩)))⟩
        rw [cset, wr1i hi (by omega)]
        exact hJ (_, i + 1) ⟨by simp only; rw [List.length_set]; exact g1, hi⟩ (by simp only; omega)
      · clear hJ g1 g2 d
        have tl2 : ∀ (y : List Kn) es_1 es_2 s_2, es_1 = knl y → es_2 = knl y → (s_2 = 5 ∨ y = []) → y.length ≤ 60 → La 0 [(1 : Tmp), (5 : Tmp), (7 : Tmp), (15 : Tmp), (16 : Tmp), (120 : Tmp), (121 : Tmp)] (WY Tryz.prog cfL 2982 (Env.mk (Bs.mk 0 []) 0 none 167 3 2) (cdAt [1, 1, 1, 1, 1, 1, 1, 1, 1, 1, 1, 1, 1, 1, 0, 1, 0, 0] (bodyOf Tryz.f3))) (Qblk 2 (Qthen (WY Tryz.prog cfL 2985 (Env.mk (Bs.mk 0 []) 0 none 167 3 0) (cdAt [1, 1, 1, 1, 1, 1, 1, 1, 1, 1, 1, 1, 1, 1, 1] (bodyOf Tryz.f3)) (QendX Tryz.prog Tryz.f3 fun v h => R (frzW h v))) (QendX Tryz.prog Tryz.f3 fun v h => R (frzW h v)))) (St.mk (mkT [(1, V.lst 3 (kdl l)), (5, V.ptr (Id.p 0) 0 0), (7, V.lst s es), (15, V.sl (Id.p 1) 0 es_1.length), (16, V.lst s_2 es_2), (120, iv (↑es_1.length : Int)), (121, iv (0 : Int))]) (Hp.mk [(0, O.rows 6 false [[iv b.1, iv b.2.1.1, iv b.2.1.2.1, iv b.2.1.2.2, V.raw (Value.int IntKind.u8 b.2.2.1), V.raw (Value.int IntKind.u8 b.2.2.2)]]), (1, O.rows 5 true es_1)] 2 [])) := by
          intro y es_1 es_2 s_2 h1 h2 hs2 hy60
          obtain ⟨m, hm⟩ : ∃ m, m = es_1.length := ⟨_, rfl⟩
          have hmL : m = y.length := by rw [hm, h1, knl_length]
          rw [← hm]
          obtain ⟨s', hs'⟩ : ∃ s', s' = s_2 := ⟨_, rfl⟩
          refine La.of (σ := List Kn × Nat) (fun x => sh3b l s es b x.1 m x.2 s' y) (fun x => x.1.length = m ∧ x.2 ≤ m ∧ ∀ j, x.2 ≤ j → x.1[j]? = y[j]?) (fun x => m - x.2) (y, 0) (by rw [h1, h2, hs']; kernel_rfl) ⟨by simp only; omega, by simp, fun j _ => rfl⟩ ?_
          rintro ⟨L, i⟩ ⟨f1, f2, f3⟩ I hI
          simp only at f1 f2 f3
          refine see (p := ifB (decide ((↑i : Int) < (↑m : Int))) (need (i < m) (onSome (knl L)[0 + i]? fun row => onCons (List.drop 0 row) fun u r => onIntK IntKind.i64 u fun n => onCons r fun u r => onIntK IntKind.i64 u fun n_1 => onCons r fun u r => onIntK IntKind.i64 u fun n_2 => onCons r fun u r => onIntK IntKind.u8 u fun n_3 => onCons r fun u r => onIntK IntKind.u8 u fun n_4 => need (s' = 5) (onSome (knl y)[i]? fun row => onCons (List.drop 0 row) fun u r => onIntK IntKind.i64 u fun n_5 => onCons r fun u r => onIntK IntKind.i64 u fun n_6 => onCons r fun u r => onIntK IntKind.i64 u fun n_7 => onCons r fun u r => onIntK IntKind.u8 u fun n_8 => onCons r fun u r => onIntK IntKind.u8 u fun n_9 => ifB (!(fun b => (fun b => n == n_5 && b) ((fun b => n_1 == n_6 && b) ((fun b => n_2 == n_7 && b) true)) && b) ((fun b => n_3 == n_8 && b) ((fun b => n_4 == n_9 && b) true))) (R (bv false)) (need (i < m) (onSome (knl L)[0 + i]? fun row => onSome row[3]? fun v => onIntK IntKind.u8 v fun n => need (i < m) (onSome (knl L)[0 + i]? fun row => guardB ((3 + 1).ble row.length) (I (St.mk (mkT [(1, V.lst 3 (kdl l)), (5, V.ptr (Id.p 0) 0 0), (7, V.lst s es), (15, V.sl (Id.p 1) 0 m), (16, V.lst s' (knl y)), (120, iv (↑m : Int)), (121, iv (IntKind.i64.wrap ((↑i : Int) + (1 : Int))))]) (Hp.mk [(0, O.rows 6 false [[iv b.1, iv b.2.1.1, iv b.2.1.2.1, iv b.2.1.2.2, V.raw (Value.int IntKind.u8 b.2.2.1), V.raw (Value.int IntKind.u8 b.2.2.2)]]), (1, O.rows 5 true ((knl L).set (0 + i) (List.take 3 row ++ [V.raw (Value.int IntKind.u8 (IntKind.u8.wrap (↑(BitVec.ofInt 8 n ^^^ BitVec.ofInt 8 (1 : Int)).toNat : Int)))] ++ List.drop 4 row)))] 2 []))))))))) (K0G Tryz.prog glX 26 [V.lst s es, V.agg [iv b.1, iv b.2.1.1, iv b.2.1.2.1, iv b.2.1.2.2, V.raw (Value.int IntKind.u8 b.2.2.1), V.raw (Value.int IntKind.u8 b.2.2.2)]] fun v => onTup v fun vs => onCons vs fun u r => onAgg u fun cs => onCons cs fun u r_1 => onIntK IntKind.i64 u fun n => onCons r_1 fun u r_2 => onIntK IntKind.i64 u fun n_1 => onCons r_2 fun u r_3 => onIntK IntKind.i64 u fun n_2 => onCons r_3 fun u r_4 => onIntK IntKind.i64 u fun n_3 => onCons r_4 fun u r_5 => onIntK IntKind.u8 u fun n_4 => onCons r_5 fun u r_6 => onIntK IntKind.u8 u fun n_5 => onNil r_6 (onCons r fun u r => onIntK IntKind.i64 u fun n_6 => onNil r (K0G Tryz.prog glX 27 [V.lst 3 (kdl l), V.agg [iv b.1, iv b.2.1.1, iv b.2.1.2.1, iv b.2.1.2.2, V.raw (Value.int IntKind.u8 b.2.2.1), V.raw (Value.int IntKind.u8 b.2.2.2)]] fun v => onTup v fun vs => onCons vs fun u r => onAgg u fun cs => onCons cs fun u r_7 => onIntK IntKind.i64 u fun n_7 => onCons r_7 fun u r_8 => onIntK IntKind.i64 u fun n_8 => onCons r_8 fun u r_9 => onIntK IntKind.i64 u fun n_9 => onCons r_9 fun u r_10 => onIntK IntKind.i64 u fun n_10 => onCons r_10 fun u r_11 => onIntK IntKind.u8 u fun n_11 => onCons r_11 fun u r_12 => onIntK IntKind.u8 u fun n_12 => onNil r_12 (onCons r fun u r => onIntK IntKind.i64 u fun n_13 => onNil r (ifB (n == n_7 && (fun b => (fun b => n_1 == n_8 && b) ((fun b => n_2 == n_9 && b) ((fun b => n_3 == n_10 && b) true)) && b) ((fun b => n_4 == n_11 && b) ((fun b => n_5 == n_12 && b) true))) (ifB (n_6 == n_13) (K0G Tryz.prog glX 28 [V.lst s es, V.lst 3 (kdl l)] fun v => onBool v fun b => R (bv b)) (R (bv false))) (R (bv false)))))))) (by kernel_rfl) ?_
          refine ifB_mk (fun d => ?_) (fun d => ?_)
          · have hi : i < m := by have := of_decide_eq_true d; omega
            obtain ⟨c, hc⟩ := getI (l := L) (k := i) (by omega)
            have hy : y[i]? = some c := by rw [← f3 i (Nat.le_refl _)]; exact hc
            have hs5 : s' = 5 := by
              rcases hs2 with x | x
              · rw [hs', x]
              · rw [x] at hmL; simp at hmL; omega
            refine need_mk ⟨hi, kel0 hc (need_mk ⟨hs5, kel hy (ifB_f (by simp) (need_mk ⟨hi, onSome_mk (kget hc) (onSome_mk (rfl : (knr c)[3]? = some (u8 c.2.1)) (show need _ _ from need_mk ⟨hi, onSome_mk (kget hc) (guardB_mk rfl ?_)⟩))⟩))⟩)⟩
            rw [kset, wr1i hi (by omega)]
            refine hI (_, i + 1) ⟨by simp only; rw [List.length_set]; exact f1, hi, fun j hj => ?_⟩ (by simp only; omega)
            simp only at hj ⊢
            rw [List.getElem?_set, if_neg (by omega)]
            exact f3 j (by omega)
          · have fin : ∀ {f : FuncId} {v : V}, K0G Tryz.prog glX 28 [.lst s es, .lst 3 (kdl l)] (fun v => onBool v fun b => R (bv b)) := fun {_ _} => k0d (same28 hl hl20 (onBool_bv h))
            refine k0d (norm26 (b := b) hl hll hb (fun e he hne => onN ?_) (fun h0 q n r hP hN => onN ?_))
            · refine norm27 (b := b) hl hll hb (fun e' he' hne' => onN ?_) (fun h0' q' n' r' hP' hN' => absurd (hask he h0') hne)
              exact ifB_t (by simp) (ifB_t (by simp [hask he he']) (fin (f := 0) (v := .junk)))
            · refine norm27 (b := b) hl hll hb (fun e' he' hne' => absurd (hask he' h0) hne') (fun h0' q' n' r' hP' hN' => onN ?_)
              obtain ⟨rfl, rfl⟩ := hP.same hP'
              have := hN.uniq hN'
              subst this
              exact ifB_t (by simp) (ifB_t (by simp) (fin (f := 0) (v := .junk)))
        refine kbd (knobs24 (b := b) hl hll hb (fun e he hne => onTup_tup (onCons_cons (onLst_lst (guardB_mk rfl (onCons_cons (onIntK_iv (onNil_nil ?_))))))) (fun h0 q n hP => onTup_tup (onCons_cons (onLst_lst (guardB_mk rfl (onCons_cons (onIntK_iv (onNil_nil ?_))))))))
        · refine knobs25 (b := b) hl hll hb (fun e' he' hne' => onTup_tup (onCons_cons (onLst_nil (onCons_cons (onIntK_iv (onNil_nil ?_)))))) (fun h0' q' n' hP' s' hs' => absurd (hask he h0') hne)
          exact ifB_f (by simp) (ifB_f (by simp [hask he he']) (tl2 [] [] [] 0 rfl rfl (.inr rfl) (by simp)))
        · refine knobs25 (b := b) hl hll hb (fun e' he' hne' => absurd (hask he' h0) hne') (fun h0' q' n' hP' s' hs' => onTup_tup (onCons_cons (onLst_lst (onCons_cons (onIntK_iv (onNil_nil ?_))))))
          obtain ⟨rfl, rfl⟩ := hP.same hP'
          exact ifB_f (by simp) (ifB_f (by simp) (tl2 (knb q n b.2.1) _ _ s' rfl rfl hs' (by rw [knb_length]; exact hP.put.2.2.2)))
    refine kbd (cells21 (b := b) hl hll hb (fun e he hne => onTup_tup (onCons_cons (onLst_lst (guardB_mk rfl (onCons_cons (onIntK_iv (onNil_nil ?_))))))) (fun h0 q n hP => onTup_tup (onCons_cons (onLst_lst (guardB_mk rfl (onCons_cons (onIntK_iv (onNil_nil ?_))))))))
    · refine cells22 (b := b) hl hll hb (fun e' he' hne' => onTup_tup (onCons_cons (onLst_nil (onCons_cons (onIntK_iv (onNil_nil ?_)))))) (fun h0' q' n' hP' => absurd (hask he h0') hne)
      exact same23n (onBool_bv (ifB_f rfl (ifB_f (by simp [hask he he']) (tl [] [] rfl (by simp)))))
    · refine cells22 (b := b) hl hll hb (fun e' he' hne' => absurd (hask he' h0) hne') (fun h0' q' n' hP' => onTup_tup (onCons_cons (onLst_lst (onCons_cons (onIntK_iv (onNil_nil ?_))))))
      obtain ⟨rfl, rfl⟩ := hP.same hP'
      rw [sub_cl]
      exact same23 (by rw [plc_length]; have := hP.put.2.1; omega) (by rw [dc_t rfl]; exact onBool_bv (ifB_f rfl (ifB_f (by simp) (tl (plc q n b.2.1) _ rfl (by rw [plc_length]; exact hP.put.2.1)))))
  have rest := rest (kdl l) rfl
  have syms : ∀ es, es = kdl l → (K0G Tryz.prog glX 18 [V.agg [V.lst 3 (cll k.1), V.lst 5 (knl k.2.1), iv k.2.2]] fun v => onTup v fun vs => onCons vs fun u r => onLst u fun s_1 es_1 => onCons r fun u r => onIntK IntKind.i64 u fun n => onNil r (K0G Tryz.prog glX 19 [V.agg [V.lst 3 (cll k.1), V.lst 5 (knl k.2.1), iv k.2.2]] fun v => onTup v fun vs => onCons vs fun u r => onLst u fun s_2 es_2 => onCons r fun u r => onIntK IntKind.i64 u fun n_3 => onNil r (K0G Tryz.prog glX 20 [V.lst s_1 es_1, V.lst s_2 es_2] fun v => onBool v fun b_3 => ifB (!b_3) (R (bv false)) (ifB (n != n_3) (R (bv false)) (KB Tryz.prog glX 21 [V.lst s es, V.agg [iv b.1, iv b.2.1.1, iv b.2.1.2.1, iv b.2.1.2.2, V.raw (Value.int IntKind.u8 b.2.2.1), V.raw (Value.int IntKind.u8 b.2.2.2)]] (Hp.mk [] 0 []) fun v => onTup v fun vs => onCons vs fun u r => onLst u fun s_3 es_3 => guardB (s_3.beq 3 || s_3.beq 0) (onCons r fun u r => onIntK IntKind.i64 u fun n => onNil r (K0G Tryz.prog glX 22 [V.lst 3 (kdl l), V.agg [iv b.1, iv b.2.1.1, iv b.2.1.2.1, iv b.2.1.2.2, V.raw (Value.int IntKind.u8 b.2.2.1), V.raw (Value.int IntKind.u8 b.2.2.2)]] fun v => onTup v fun vs => onCons vs fun u r => onLst u fun s_4 es_4 => onCons r fun u r => onIntK IntKind.i64 u fun n_4 => onNil r (K0G Tryz.prog glX 23 [V.lst 3 (sub es_3 0 es_3.length), V.lst s_4 es_4] fun v => onBool v fun b_4 => ifB (!b_4) (R (bv false)) (ifB (n != n_4) (R (bv false)) (La 0 [(1 : Tmp), (5 : Tmp), (7 : Tmp), (12 : Tmp), (84 : Tmp), (85 : Tmp)] (WY Tryz.prog cfL 2986 (Env.mk (Bs.mk 0 []) 0 none 167 3 0) (cdAt [1, 1, 1, 1, 1, 1, 1, 1, 1, 1, 0, 1, 0, 0] (bodyOf Tryz.f3))) (Qblk 0 (Qthen (WY Tryz.prog cfL 2989 (Env.mk (Bs.mk 0 []) 0 none 167 3 0) (cdAt [1, 1, 1, 1, 1, 1, 1, 1, 1, 1, 1] (bodyOf Tryz.f3)) (QendX Tryz.prog Tryz.f3 fun v h => R (frzW h v))) (QendX Tryz.prog Tryz.f3 fun v h => R (frzW h v)))) (St.mk (mkT [(1, V.lst 3 (kdl l)), (5, V.ptr (Id.p 0) 0 0), (7, V.lst s es), (12, V.sl (Id.p 1) 0 es_3.length), (84, iv (↑es_3.length : Int)), (85, iv (0 : Int))]) (Hp.mk [(0, O.rows 6 false [[iv b.1, iv b.2.1.1, iv b.2.1.2.1, iv b.2.1.2.2, V.raw (Value.int IntKind.u8 b.2.2.1), V.raw (Value.int IntKind.u8 b.2.2.2)]]), (1, O.rows 3 true es_3)] 2 []))))))))))) : Prop) := by
    intro es hes
    subst hes
    refine sym18 hkd (fun a => onTup_tup (onCons_cons (onLst_lst (onCons_cons (onIntK_iv (onNil_nil ?_)))))) (fun a => onTup_tup (onCons_cons (onLst_nil (onCons_cons (onIntK_iv (onNil_nil ?_))))))
    · refine sym19 hkd (fun _ => onTup_tup (onCons_cons (onLst_lst (onCons_cons (onIntK_iv (onNil_nil ?_)))))) (fun x => absurd a x)
      exact same20 (by have := symF_len k 24; omega) (by rw [dc_t rfl]; exact onBool_bv (ifB_f rfl (ifB_f rfl rest)))
    · refine sym19 hkd (fun x => absurd x a) (fun _ => onTup_tup (onCons_cons (onLst_nil (onCons_cons (onIntK_iv (onNil_nil ?_))))))
      exact same20n (onBool_bv (ifB_f rfl (ifB_f rfl rest)))
  have syms := syms (kdl l) rfl
  refine kind14 hkd (fun a => onIntK_iv (kind15 hkd (fun _ => onIntK_iv (ifB_f rfl ?_)) (fun x => absurd a x))) (fun a => onIntK_iv (kind15 hkd (fun x => absurd x a) (fun _ => onIntK_iv (ifB_f rfl ?_))))
  all_goals
    refine K0_d hs (kinds16 hl (fun b1 => onIntK_iv (kinds17 hl (fun _ => onIntK_iv (ifB_f rfl syms)) (fun x => absurd x (by have := b1.1; omega)) (fun _ x => absurd b1 x))) (fun b2 => onIntK_iv (kinds17 hl (fun x => absurd x.1 (by omega)) (fun _ => onIntK_iv (ifB_f rfl syms)) (fun x _ => absurd x (by omega)))) (fun b3 b4 => onIntK_iv (kinds17 hl (fun x => absurd x b4) (fun x => absurd x (by omega)) (fun _ _ => onIntK_iv (ifB_f rfl syms)))))
end Go.Proofs.YtbionhgjgcpogaaGreatDoor
namespace Go.Proofs.YtbionhgjgcpogaaGreatDoor.Clean
open Go.Deep
set_option linter.unusedSimpArgs false
set_option linter.unusedVariables false
section
variable {H : Type} (enc : TypeId × Value → H) (P : Program) (w : World)
def FW (r : Nat) : Prop := r < w.heap.size
def Opens (t : TypeId) {α : Type} (f : α → List V) (ok : α → Prop) : Prop :=
  ∀ fuel cs x, DataW.trod enc P w 0 (fun _ => true) true fuel t cs = some x → ∃ a, riL (FW w) w (f a) cs ∧ ok a ∧ ∀ u ∈ cs, u.oneCell' = true
def OpensF (total : Nat) (off : Nat) (fs : List Field) {α : Type} (f : α → List V) (ok : α → Prop) : Prop :=
  ∀ n (cs : List Value), cs.length = total → (∀ fd ∈ fs, ∃ x, DataW.trod enc P w 0 (fun _ => true) true n fd.type ((cs.drop fd.offset).take (P.cellsOf fd.type)) = some x) →
    ∃ a, riL (FW w) w (f a) (cs.drop off) ∧ ok a ∧ ∀ u ∈ cs.drop off, u.oneCell' = true
end
section
variable {H : Type} {enc : TypeId × Value → H} {P : Program} {w : World}
theorem riL_append : ∀ {vs us : List V} {xs ys : List Value}, riL (FW w) w vs xs → riL (FW w) w us ys → riL (FW w) w (vs ++ us) (xs ++ ys)
  | [], us, xs, ys, h, k => by simp only [riL] at h; subst h; simpa using k
  | v :: vs, us, xs, ys, h, k => by
    simp only [riL] at h
    obtain ⟨x, zs, rfl, h2, h3⟩ := h
    simp only [List.cons_append, riL]
    exact ⟨x, zs ++ ys, rfl, h2, riL_append h3 k⟩
theorem riL_one {v : V} {x : Value} (h : ri (FW w) w v x) : riL (FW w) w [v] [x] := by simp only [riL]; exact ⟨x, [], rfl, h, rfl⟩
theorem riL_get : ∀ {vs : List V} {xs : List Value}, riL (FW w) w vs xs → ∀ (i : Nat) v, vs[i]? = some v → ∃ x, xs[i]? = some x ∧ ri (FW w) w v x
  | [], xs, h, i, v, hi => by simp at hi
  | u :: vs, xs, h, i, v, hi => by
    simp only [riL] at h
    obtain ⟨x, ys, rfl, h2, h3⟩ := h
    cases i with
    | zero => simp at hi; subst hi; exact ⟨x, rfl, h2⟩
    | succ i => simp at hi; simpa using riL_get h3 i v hi
theorem riL_length : ∀ {vs : List V} {xs : List Value}, riL (FW w) w vs xs → xs.length = vs.length
  | [], xs, h => by simp only [riL] at h; simp [h]
  | v :: vs, xs, h => by simp only [riL] at h; obtain ⟨x, ys, rfl, _, h3⟩ := h; simp [riL_length h3]
theorem opens_int {t : TypeId} {k : IntKind} (ht : P.underlying t = some (.int k)) : Opens enc P w t (fun n : Int => [.raw (.int k n)]) (fun n => (Lit.int k n).wf = true) := by
  intro fuel cs x h
  obtain ⟨n, rfl, _, hw⟩ := DataW.trod_int ht h
  exact ⟨n, riL_one (by simp [ri]), hw, by simp [Value.oneCell']⟩
theorem opens_slice {t e : TypeId} {s : Nat} {α : Type} {f : α → List V} {ok : α → Prop} (ht : P.underlying t = some (.slice e)) (hs : P.cellsOf e = s) (hpos : s ≠ 0) (ho : Opens enc P w e f ok) :
    Opens enc P w t (fun l : List α => [.lst s (l.map f)]) (fun l => l.length ≤ maxLen ∧ ∀ a ∈ l, ok a) := by
  intro fuel cs x h
  rcases open_slice ht h with ⟨rfl, _⟩ | ⟨a, len, cap, m, n, D, Pl, rfl, _, hl, hm, hmm, _, hx⟩
  · exact ⟨[], riL_one (by simp [ri]), by simp, by simp [Value.oneCell']⟩
  · simp only [if_true] at hmm
    subst hmm
    rw [hs] at hx
    have each : ∀ i, i < len → ∃ q : α, (∃ cs', w.cells? 0 (a.add (i * s)) s = some cs' ∧ riL (FW w) w (f q) cs' ∧ ∀ u ∈ cs', u.oneCell' = true) ∧ ok q := by
      intro i hi
      obtain ⟨cs', h1, h2⟩ := hx i (by omega)
      obtain ⟨q, h3, h4, h5⟩ := ho _ _ _ h2
      exact ⟨q, ⟨cs', h1, h3, h5⟩, h4⟩
    obtain ⟨q, hq⟩ : ∃ q : Nat → Option α, ∀ i, i < len → ∃ y, q i = some y ∧ (∃ cs', w.cells? 0 (a.add (i * s)) s = some cs' ∧ riL (FW w) w (f y) cs' ∧ ∀ u ∈ cs', u.oneCell' = true) ∧ ok y := by
      refine Classical.axiomOfChoice (r := fun i (o : Option α) => i < len → ∃ y, o = some y ∧ (∃ cs', w.cells? 0 (a.add (i * s)) s = some cs' ∧ riL (FW w) w (f y) cs' ∧ ∀ u ∈ cs', u.oneCell' = true) ∧ ok y) ?_
      intro i
      by_cases hi : i < len
      · obtain ⟨y, hy⟩ := each i hi
        exact ⟨some y, fun _ => ⟨y, rfl, hy⟩⟩
      · exact ⟨none, fun h => (hi h).elim⟩
    let l : List α := (List.range len).filterMap q
    have hl' : l.length = len ∧ ∀ i, i < len → l[i]? = q i := by
      have key : ∀ k, k ≤ len → ((List.range k).filterMap q).length = k ∧ ∀ i, i < k → ((List.range k).filterMap q)[i]? = q i := by
        intro k
        induction k with
        | zero => intro _; simp
        | succ k ih =>
          intro hk
          obtain ⟨h1, h2⟩ := ih (by omega)
          obtain ⟨y, hy, _⟩ := hq k (by omega)
          have : (List.range (k + 1)).filterMap q = (List.range k).filterMap q ++ [y] := by rw [List.range_succ, List.filterMap_append]; simp [hy]
          rw [this]
          refine ⟨by simp [h1], fun i hi => ?_⟩
          by_cases hik : i < k
          · rw [List.getElem?_append_left (by omega)]; exact h2 i hik
          · have : i = k := by omega
            subst this
            rw [List.getElem?_append_right (by omega), h1, hy]; simp
      exact key len (Nat.le_refl _)
    refine ⟨l, riL_one ?_, ⟨by omega, fun b hb => ?_⟩, by simp [Value.oneCell']⟩
    · simp only [ri]
      refine .inr ⟨a, m, by simp [hl'.1]; exact hl, by simp [hl'.1], ?_⟩
      by_cases h0 : len = 0
      · left
        have : l = [] := List.eq_nil_of_length_eq_zero (by omega)
        simp [this]
      · right
        have cell : ∀ (i : Nat) (cs' : List Value), i < len → w.cells? 0 (a.add (i * s)) s = some cs' → ∀ j, j < s → w.cell? (a.add (i * s + j)) = cs'[j]? ∧ cs'.length = s := by
          intro i cs' hi hc j hj
          obtain ⟨_, hlen, hcc⟩ := World.cells?_some hc
          have := hcc j hj
          rw [add_add] at this
          exact ⟨this, hlen⟩
        obtain ⟨y0, hy0, ⟨cs0, c1, _, _⟩, _⟩ := hq 0 (by omega)
        have hc0 := (cell 0 cs0 (by omega) c1 0 (by omega))
        have hsome : ∃ u, w.cell? a = some u := by
          have h1 := hc0.1
          rw [Nat.zero_mul, Nat.zero_add] at h1
          have : a.add 0 = a := by simp [Addr.add]
          rw [this] at h1
          rw [h1]
          exact ⟨cs0[0]'(by omega), List.getElem?_eq_getElem (by omega)⟩
        obtain ⟨u0, hu0⟩ := hsome
        have hspot : a.spot = none := by
          unfold World.cell? at hu0
          split at hu0
          · split at hu0
            · cases hu0
            · rename_i h; simpa using h
          · cases hu0
        obtain ⟨ab, ao, asp⟩ := a
        simp only at hspot
        subst hspot
        refine ⟨rfl, World.block_lt_of_cell? w _ hu0, ?_⟩
        rw [riRows_iff]
        intro i row hrow
        rw [List.getElem?_map, Option.map_eq_some_iff] at hrow
        obtain ⟨b, hb, rfl⟩ := hrow
        have hi : i < len := by have := (List.getElem?_eq_some_iff.1 hb).1; omega
        obtain ⟨y, hy, ⟨cs', g1, g2, g3⟩, _⟩ := hq i hi
        rw [hl'.2 i hi, hy] at hb
        simp at hb
        subst hb
        have hlen' := riL_length g2
        obtain ⟨_, hclen, _⟩ := World.cells?_some g1
        refine ⟨by omega, fun j v hj => ?_⟩
        obtain ⟨z, z1, z2⟩ := riL_get g2 j v hj
        have hjs : j < s := by have := (List.getElem?_eq_some_iff.1 z1).1; omega
        refine ⟨z, ?_, g3 z (List.mem_of_getElem? z1), z2⟩
        have := (cell i cs' hi g1 j hjs).1
        rw [add_lit, ← Nat.add_assoc] at this
        rw [this]; exact z1
    · obtain ⟨i, hi⟩ := List.mem_iff_getElem?.1 hb
      have hil : i < len := by have := (List.getElem?_eq_some_iff.1 hi).1; omega
      obtain ⟨y, hy, _, hok⟩ := hq i hil
      rw [hl'.2 i hil, hy] at hi
      simp at hi
      exact hi ▸ hok
theorem opensF_nil {total : Nat} : OpensF enc P w total total [] (fun _ : Unit => []) (fun _ => True) := by
  intro n cs hl _
  rw [List.drop_of_length_le (by omega)]
  exact ⟨(), by simp [riL], trivial, by simp⟩
theorem opensF_cons {total off k : Nat} {fd : Field} {fs : List Field} {α β : Type} {f : α → List V} {g : β → List V} {ok : α → Prop} {ok' : β → Prop} (ho : fd.offset = off) (hk : P.cellsOf fd.type = k)
    (h1 : Opens enc P w fd.type f ok) (h2 : OpensF enc P w total (off + k) fs g ok') : OpensF enc P w total off (fd :: fs) (fun x : α × β => f x.1 ++ g x.2) (fun x => ok x.1 ∧ ok' x.2) := by
  intro n cs hl hf
  obtain ⟨x, hx⟩ := hf fd (by simp)
  rw [ho, hk] at hx
  obtain ⟨a, a1, a2, a3⟩ := h1 _ _ _ hx
  obtain ⟨b, b1, b2, b3⟩ := h2 n cs hl (fun fd' h' => hf fd' (by simp [h']))
  have hsplit : cs.drop off = (cs.drop off).take k ++ cs.drop (off + k) := by rw [← List.drop_drop, List.take_append_drop]
  refine ⟨(a, b), ?_, ⟨a2, b2⟩, ?_⟩
  · rw [hsplit]; exact riL_append a1 b1
  · rw [hsplit]
    intro u hu
    rcases List.mem_append.1 hu with hu | hu
    · exact a3 u hu
    · exact b3 u hu
theorem opens_struct {t : TypeId} {fs : Array Field} {total : Nat} {α : Type} {f : α → List V} {ok : α → Prop} (ht : P.underlying t = some (.struct fs)) (hc : P.cellsOf t = total) (h : OpensF enc P w total 0 fs.toList f ok) : Opens enc P w t f ok := by
  intro fuel cs x hx
  obtain ⟨xs, n, _, _, hl, hxl, hf⟩ := DataW.trod_struct ht hx
  have := h n cs (by omega) (fun fd hfd => by
    obtain ⟨i, hi⟩ := List.mem_iff_getElem?.1 hfd
    have hi' : fs[i]? = some fd := by simpa using hi
    have := hf i fd hi'
    have hil : i < xs.length := by rw [hxl]; exact lt_of_some hi'
    rw [List.getElem?_eq_getElem hil] at this
    exact ⟨_, this⟩)
  simpa using this
theorem arg_slice {t e : TypeId} {v : Value} {d : DataW H} {p : List MemPlace} {r : Reach} {b0 : Nat} {α : Type} {f : α → V} {ok : α → Prop} (ht : P.underlying t = some (.slice e)) (hval : Value.okWide P w r b0 t v) (h : DataW.Trod enc P w 0 (fun _ => true) true t v d p)
    (ho : Opens enc P w t (fun a => [f a]) ok) : ∃ a, ri (FW w) w (f a) v ∧ ok a := by
  obtain ⟨a, len, cap, rfl⟩ := WideShapes.okWide_slice ht hval
  obtain ⟨fuel, hf⟩ := h
  obtain ⟨y, h1, h2, _⟩ := ho _ _ _ hf
  simp only [Value.cells, riL] at h1
  obtain ⟨x, xs, hx, h3, _⟩ := h1
  simp at hx
  exact ⟨y, by rw [hx.1]; exact h3, h2⟩
theorem arg_struct {t : TypeId} {fs : Array Field} {v : Value} {d : DataW H} {p : List MemPlace} {r : Reach} {b0 : Nat} {α : Type} {f : α → List V} {ok : α → Prop} (ht : P.underlying t = some (.struct fs)) (hval : Value.okWide P w r b0 t v) (h : DataW.Trod enc P w 0 (fun _ => true) true t v d p)
    (ho : Opens enc P w t f ok) : ∃ a, ri (FW w) w (.agg (f a)) v ∧ ok a := by
  obtain ⟨cs, rfl, _⟩ := WideShapes.okWide_struct ht hval
  obtain ⟨fuel, hf⟩ := h
  obtain ⟨y, h1, h2, _⟩ := ho _ _ _ hf
  exact ⟨y, by simp only [ri]; exact ⟨cs, rfl, h1⟩, h2⟩
end
end Go.Proofs.YtbionhgjgcpogaaGreatDoor.Clean
namespace Go.Proofs.YtbionhgjgcpogaaGreatDoor.Clean
set_option linter.unusedVariables false
set_option linter.unusedSimpArgs false
mutual
def litC {H : Type} (P : Program) : Nat → TypeId → DataW H → Option (List V)
  | 0, _, _ => none
  | f + 1, t, d => match P.underlying t with
    | some (.int k) => match d with
      | .lit (.int k' n) => some [.raw (.int k n)]
      | _ => none
    | some (.struct fs) => match d with
      | .agg xs => litF P f (P.cellsOf t) fs.toList xs 0
      | _ => none
    | some (.array n e) => match d with
      | .agg xs => if P.cellsOf t = n * P.cellsOf e then litA P f e xs else none
      | _ => none
    | _ => none
def litF {H : Type} (P : Program) : Nat → Nat → List Field → List (DataW H) → Nat → Option (List V)
  | 0, _, _, _, _ => none
  | _ + 1, n, [], [], o => if n = o then some [] else none
  | f + 1, n, fd :: fs, x :: xs, o => if fd.offset = o then (litC P f fd.type x).bind fun a => (litF P f n fs xs (o + P.cellsOf fd.type)).bind fun b => if a.length = P.cellsOf fd.type then some (a ++ b) else none else none
  | _, _, _, _, _ => none
def litA {H : Type} (P : Program) : Nat → TypeId → List (DataW H) → Option (List V)
  | 0, _, _ => none
  | _ + 1, _, [] => some []
  | f + 1, e, x :: xs => (litC P f e x).bind fun a => (litA P f e xs).bind fun b => if a.length = P.cellsOf e then some (a ++ b) else none
end
section
variable {H : Type} {enc : TypeId × Value → H} {P : Program} {w : World} {b0 : Nat} {sp : Nat → Bool} {held : Bool}
def CellsOK (w : World) (vs : List V) (cs : List Value) : Prop := cs.length = vs.length ∧ ∀ (i : Nat) v x, vs[i]? = some v → cs[i]? = some x → x.oneCell' = true ∧ ri (FW w) w v x
theorem CellsOK.append {vs us : List V} {cs ds : List Value} (h : CellsOK w vs cs) (k : CellsOK w us ds) : CellsOK w (vs ++ us) (cs ++ ds) := by
  refine ⟨by simp [h.1, k.1], fun i v x hv hx => ?_⟩
  by_cases hi : i < vs.length
  · rw [List.getElem?_append_left hi] at hv
    rw [List.getElem?_append_left (by rw [h.1]; exact hi)] at hx
    exact h.2 i v x hv hx
  · rw [List.getElem?_append_right (by omega)] at hv
    rw [List.getElem?_append_right (by rw [h.1]; omega), h.1] at hx
    exact k.2 _ v x hv hx
theorem take_split (cs : List Value) (o n : Nat) : cs.drop o = (cs.drop o).take n ++ cs.drop (o + n) := by rw [← List.drop_drop, List.take_append_drop]
theorem lit_ok (f : Nat) :
    (∀ (t : TypeId) (d : DataW H) (vs : List V), litC P f t d = some vs → ∀ fuel cs x, DataW.trod enc P w b0 sp held fuel t cs = some x → x.1 = d → CellsOK w vs cs) ∧
    (∀ (fs : List Field) (xs : List (DataW H)) (o : Nat) (vs : List V) (cs : List Value), litF P f cs.length fs xs o = some vs → ∀ m (ys : List (DataW H × List MemPlace)), ys.map (·.1) = xs → (∀ (i : Nat) fd, fs[i]? = some fd → DataW.trod enc P w b0 sp held m fd.type ((cs.drop fd.offset).take (P.cellsOf fd.type)) = ys[i]?) → CellsOK w vs (cs.drop o)) ∧
    (∀ (e : TypeId) (xs : List (DataW H)) (o : Nat) (vs : List V) (cs : List Value), litA P f e xs = some vs → cs.length = o + xs.length * P.cellsOf e → ∀ m (ys : List (DataW H × List MemPlace)), ys.map (·.1) = xs → (∀ (i : Nat), i < xs.length → DataW.trod enc P w b0 sp held m e ((cs.drop (o + i * P.cellsOf e)).take (P.cellsOf e)) = ys[i]?) → CellsOK w vs (cs.drop o)) := by
  induction f with
  | zero => exact ⟨fun t d vs h => by simp [litC] at h, fun fs xs o vs cs h => by simp [litF] at h, fun e xs o vs cs h => by simp [litA] at h⟩
  | succ f ih =>
    obtain ⟨ihC, ihF, ihA⟩ := ih
    refine ⟨fun t d vs h fuel cs x hx hd => ?_, fun fs xs o vs cs h m ys hys hf => ?_, fun e xs o vs cs h hl m ys hys hf => ?_⟩
    · simp only [litC] at h
      split at h
      · rename_i k hk
        split at h
        · rename_i k' n
          cases h
          obtain ⟨m, rfl, h2, _⟩ := DataW.trod_int hk hx
          have hxd : x.1 = .lit (.int k m) := by rw [h2]
          rw [hd] at hxd
          simp only [DataW.lit.injEq, Lit.int.injEq] at hxd
          obtain ⟨_, rfl⟩ := hxd
          refine ⟨rfl, fun i v x hv hx => ?_⟩
          cases i with
          | zero => simp at hv hx; subst hv; subst hx; exact ⟨rfl, by simp [ri]⟩
          | succ i => simp at hv
        · cases h
      · rename_i fs hs
        split at h
        · rename_i xs
          obtain ⟨ys, n, _, hy, hl, hyl, hf⟩ := DataW.trod_struct hs hx
          have hxs : ys.map (·.1) = xs := by
            have := hd
            rw [hy] at this
            simpa using this
          rw [← hl] at h
          have := ihF fs.toList xs 0 vs cs h n ys hxs (fun i fd hi => hf i fd (by simpa using hi))
          simpa using this
        · cases h
      · rename_i n e ha
        split at h
        · rename_i xs
          split at h
          · rename_i hn
            obtain ⟨ys, m, _, hy, hl, hyl, hf⟩ := DataW.trod_array ha hx
            have hxs : ys.map (·.1) = xs := by
              have := hd
              rw [hy] at this
              simpa using this
            have hxl : xs.length = n := by rw [← hxs]; simpa using hyl
            have := ihA e xs 0 vs cs h (by rw [hl, hn, hxl]; omega) m ys hxs (fun i hi => by rw [Nat.zero_add]; exact hf i (by omega))
            simpa using this
          · cases h
        · cases h
      · cases h
    · cases fs with
      | nil =>
        cases xs with
        | nil =>
          simp only [litF] at h
          split at h
          · rename_i hn
            cases h
            subst hn
            refine ⟨by simp, fun i v x hv hx => by simp at hv⟩
          · cases h
        | cons x xs => simp [litF] at h
      | cons fd fs =>
        cases xs with
        | nil => simp [litF] at h
        | cons x xs =>
          simp only [litF] at h
          split at h
          · rename_i ho
            cases ha : litC P f fd.type x with
            | none => rw [ha] at h; cases h
            | some a =>
              cases hb : litF P f cs.length fs xs (o + P.cellsOf fd.type) with
              | none => rw [ha, hb] at h; cases h
              | some b =>
                rw [ha, hb] at h
                simp only [Option.bind_some] at h
                split at h
                · rename_i hal
                  cases h
                  cases ys with
                  | nil => simp at hys
                  | cons y ys =>
                    simp only [List.map_cons, List.cons.injEq] at hys
                    have h0 := hf 0 fd rfl
                    rw [ho] at h0
                    rw [take_split cs o (P.cellsOf fd.type)]
                    exact (ihC _ _ _ ha _ _ _ h0 hys.1).append (ihF fs xs _ b cs hb m ys hys.2 (fun i fd' hi => hf (i + 1) fd' (by simpa using hi)))
                · cases h
          · cases h
    · cases xs with
      | nil =>
        simp only [litA, Option.some.injEq] at h
        subst h
        refine ⟨by simp at hl ⊢; omega, fun i v x hv hx => by simp at hv⟩
      | cons x xs =>
        simp only [litA] at h
        cases ha : litC P f e x with
        | none => rw [ha] at h; cases h
        | some a =>
          cases hb : litA P f e xs with
          | none => rw [ha, hb] at h; cases h
          | some b =>
            rw [ha, hb] at h
            simp only [Option.bind_some] at h
            split at h
            · rename_i hal
              cases h
              cases ys with
              | nil => simp at hys
              | cons y ys =>
                simp only [List.map_cons, List.cons.injEq] at hys
                have h0 := hf 0 (by simp)
                rw [Nat.zero_mul, Nat.add_zero] at h0
                rw [take_split cs o (P.cellsOf e)]
                refine (ihC _ _ _ ha _ _ _ h0 hys.1).append (ihA e xs _ b cs hb (by rw [hl, List.length_cons, Nat.add_mul]; omega) m ys hys.2 (fun i hi => ?_))
                have := hf (i + 1) (by simpa using hi)
                rw [Nat.add_mul, Nat.one_mul] at this
                rw [show o + P.cellsOf e + i * P.cellsOf e = o + (i * P.cellsOf e + P.cellsOf e) by omega]
                simpa using this
            · cases h
end
structure LaidOne (P : Program) (g : Nat) (n : String) (d : DataW Unit) (vs : List V) : Prop where
  name : P.globalNamed n = some g
  cells : (((P.globals[g]?).map (·.type)).bind fun t => litC P 64 t d) = some vs
theorem riCells_of {F : Nat → Prop} {w : World} {b : Nat} : ∀ (vs : List V) (o : Nat), (∀ i v, vs[i]? = some v → ∃ x, w.cell? ⟨b, o + i, none⟩ = some x ∧ x.oneCell' = true ∧ ri F w v x) → riCells F w b vs o
  | [], o, _ => by simp only [riCells]
  | v :: vs, o, h => by
    simp only [riCells]
    refine ⟨by simpa using h 0 v rfl, riCells_of vs (o + 1) fun i v hi => ?_⟩
    have := h (i + 1) v (by simpa using hi)
    rwa [show o + (i + 1) = o + 1 + i by omega] at this
theorem laid_adr {P : Program} {w : World} {laid : List (String × DataW Unit)} (hp : (laid.all fun x => x.2.handleName?.isNone) = true) (h : laidMetH P laid w) {g : Nat} {n : String} {d : DataW Unit} {vs : List V} (hm : (n, d) ∈ laid) (ho : LaidOne P g n d vs) (hne : vs ≠ []) :
    ri (FW w) w (.adr vs 0) (.pointer (some ⟨g, 0, none⟩)) := by
  rw [MakeChecks.laidMetH_plain _ _ _ hp] at h
  obtain ⟨ps, hl, _⟩ := h
  have key : ∀ (l : List (String × DataW Unit)) (ps : List MemPlace), DataW.LaidVars P w l ps → (n, d) ∈ l → ∃ t cs fuel p, (P.globals[g]?).map (·.type) = some t ∧ w.var? P n = some cs ∧ DataW.trod (fun _ => ()) P w 0 (fun _ => true) false fuel t cs.toList = some (d, p) := by
    intro l
    induction l with
    | nil => intro ps _ hm; cases hm
    | cons a r ih =>
      obtain ⟨n', d'⟩ := a
      intro ps hl hm
      obtain ⟨g', t, cs, fuel, p, q, h1, h2, h3, h4, h5, _⟩ := hl
      rcases List.mem_cons.1 hm with he | he
      · cases he
        obtain rfl := Option.some.inj (ho.name.symm.trans h1)
        exact ⟨t, cs, fuel, p, h2, h3, h4⟩
      · exact ih q h5 he
  obtain ⟨t, cs, fuel, p, h1, h2, h3⟩ := key laid ps hl hm
  have k2 := ho.cells
  rw [h1, Option.bind_some] at k2
  have hc := (lit_ok 64).1 _ _ _ k2 _ _ _ h3 rfl
  have hv := World.var?_cell ho.name h2
  simp only [ri]
  have cell : ∀ i v, vs[i]? = some v → ∃ x, w.cell? ⟨g, 0 + i, none⟩ = some x ∧ x.oneCell' = true ∧ ri (FW w) w v x := by
    intro i v hi
    have hlt : i < vs.length := (List.getElem?_eq_some_iff.1 hi).1
    have hlt' : i < cs.toList.length := by rw [hc.1]; exact hlt
    obtain ⟨q1, q2⟩ := hc.2 i v _ hi (List.getElem?_eq_getElem hlt')
    refine ⟨cs.toList[i], ?_, q1, q2⟩
    rw [Nat.zero_add, hv i]
    simp at hlt' ⊢
  refine ⟨g, 0, by simp, ?_, riCells_of vs 0 cell⟩
  obtain ⟨v, r, rfl⟩ := List.exists_cons_of_ne_nil hne
  obtain ⟨x, hx, _⟩ := cell 0 v rfl
  show g < w.heap.size
  simp only [World.cell?] at hx
  cases hh : w.heap[0 + g]? with
  | none => rw [Nat.zero_add] at hh; rw [hh] at hx; simp at hx
  | some o => rw [Nat.zero_add] at hh; exact lt_of_some hh
end Go.Proofs.YtbionhgjgcpogaaGreatDoor.Clean
