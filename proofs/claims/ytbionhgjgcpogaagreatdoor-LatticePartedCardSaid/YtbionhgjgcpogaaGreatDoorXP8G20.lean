/- A part of the proof. -/
import Derived.Test.YtbionhgjgcpogaaGreatDoorProg
import Derived.ProofKit
import Derived.Deep.Slices
import Derived.Carry
import Derived.OpenShut
import Derived.MakeChecks
import Derived.FnData
import Derived.Deep.Strs
import Derived.Test.YtbionhgjgcpogaaGreatDoorXP8G7
import Derived.Test.YtbionhgjgcpogaaGreatDoorXP8G10
import Derived.Test.YtbionhgjgcpogaaGreatDoorXP8G11
import Derived.Test.YtbionhgjgcpogaaGreatDoorXP8G12
import Derived.Test.YtbionhgjgcpogaaGreatDoorXP8G15
import Derived.Test.YtbionhgjgcpogaaGreatDoorXP8G17
import Derived.Test.YtbionhgjgcpogaaGreatDoorXP8G18
import Derived.Test.YtbionhgjgcpogaaGreatDoorXP8G19
namespace Go.Proofs.YtbionhgjgcpogaaGreatDoor
open Go Go.Proofs.YtbionhgjgcpogaaGreatDoor.Clean
set_option linter.unusedVariables false
set_option maxRecDepth 100000
theorem tok0 : Facts Tryz.prog glX tb0 := trivial
theorem t0 : KFX fa0 := k0 tok0
theorem tok1 : Facts Tryz.prog glX tb1 := ⟨t0, tok0⟩
theorem t1 : KFX fa1 := k1 tok1
theorem tok2 : Facts Tryz.prog glX tb2 := ⟨t1, tok1⟩
theorem t2 : KFX fa2 := k2 tok2
theorem tok3 : Facts Tryz.prog glX tb3 := ⟨t2, tok2⟩
theorem t3 : KFX fa3 := k3 tok3
theorem tok4 : Facts Tryz.prog glX tb4 := ⟨t3, tok3⟩
theorem t4 : KFX fa4 := k4 tok4
theorem tok5 : Facts Tryz.prog glX tb5 := ⟨t4, tok4⟩
theorem t5 : KFX fa5 := k5 tok5
theorem tok6 : Facts Tryz.prog glX tb6 := ⟨t5, tok5⟩
theorem t6 : KFX fa6 := k6 tok6
theorem tok7 : Facts Tryz.prog glX tb7 := ⟨t6, tok6⟩
theorem t7 : KFX fa7 := k7 tok7
theorem tok8 : Facts Tryz.prog glX tb8 := ⟨t7, tok7⟩
theorem t8 : KFX fa8 := k8 tok8
theorem tok9 : Facts Tryz.prog glX tb9 := ⟨t8, tok8⟩
theorem t9 : KFX fa9 := k9 tok9
theorem tok10 : Facts Tryz.prog glX tb10 := ⟨t9, tok9⟩
theorem t10 : KFX fa10 := k10 tok10
theorem tok11 : Facts Tryz.prog glX tb11 := ⟨t10, tok10⟩
theorem t11 : KFX fa11 := k11 tok11
theorem tok12 : Facts Tryz.prog glX tb12 := ⟨t11, tok11⟩
theorem t12 : KFX fa12 := k12 tok12
theorem tok13 : Facts Tryz.prog glX tb13 := ⟨t12, tok12⟩
theorem t13 : KFX fa13 := k13 tok13
theorem tok14 : Facts Tryz.prog glX tb14 := ⟨t13, tok13⟩
theorem t14 : KFX fa14 := k14 tok14
theorem tok15 : Facts Tryz.prog glX tb15 := ⟨t14, tok14⟩
theorem t15 : KFX fa15 := k15 tok15
theorem tok16 : Facts Tryz.prog glX tb16 := ⟨t15, tok15⟩
theorem t16 : KFX fa16 := k16 tok16
theorem tok17 : Facts Tryz.prog glX tb17 := ⟨t16, tok16⟩
theorem t17 : KFX fa17 := k17 tok17
theorem tok18 : Facts Tryz.prog glX tb18 := ⟨t17, tok17⟩
theorem t18 : KFX fa18 := k18 tok18
theorem tok19 : Facts Tryz.prog glX tb19 := ⟨t18, tok18⟩
theorem t19 : KFX fa19 := k19 tok19
theorem tok20 : Facts Tryz.prog glX tb20 := ⟨t19, tok19⟩
theorem t20 : KFX fa20 := k20 tok20
theorem tok21 : Facts Tryz.prog glX tb21 := ⟨t20, tok20⟩
theorem t21 : KFX fa21 := k21 tok21
theorem tok22 : Facts Tryz.prog glX tb22 := ⟨t21, tok21⟩
theorem t22 : KFX fa22 := k22 tok22
theorem tok23 : Facts Tryz.prog glX tb23 := ⟨t22, tok22⟩
theorem t23 : KFX fa23 := k23 tok23
theorem tok24 : Facts Tryz.prog glX tb24 := ⟨t23, tok23⟩
theorem t24 : KFX fa24 := k24 tok24
theorem tok25 : Facts Tryz.prog glX tb25 := ⟨t24, tok24⟩
theorem t25 : KFX fa25 := k25 tok25
theorem tok26 : Facts Tryz.prog glX tb26 := ⟨t25, tok25⟩
theorem t26 : KFX fa26 := k26 tok26
theorem tok27 : Facts Tryz.prog glX tb27 := ⟨t26, tok26⟩
theorem t27 : KFX fa27 := k27 tok27
theorem tok28 : Facts Tryz.prog glX tb28 := ⟨t27, tok27⟩
theorem t28 : KFX fa28 := k28 tok28
theorem tok29 : Facts Tryz.prog glX tb29 := ⟨t28, tok28⟩
theorem t29 : KFX fa29 := k29 tok29
theorem tok30 : Facts Tryz.prog glX tb30 := ⟨t29, tok29⟩
theorem t30 : KFX fa30 := k30 tok30
theorem tok31 : Facts Tryz.prog glX tb31 := ⟨t30, tok30⟩
theorem t31 : KFX fa31 := k31 tok31
theorem tok32 : Facts Tryz.prog glX tb32 := ⟨t31, tok31⟩
theorem t32 : KFX fa32 := k32 tok32
theorem tok33 : Facts Tryz.prog glX tb33 := ⟨t32, tok32⟩
theorem t33 : KFX fa33 := k33 tok33
theorem tok34 : Facts Tryz.prog glX tb34 := ⟨t33, tok33⟩
theorem t34 : KFX fa34 := k34 tok34
theorem tok35 : Facts Tryz.prog glX tb35 := ⟨t34, tok34⟩
theorem t35 : KFX fa35 := k35 tok35
theorem tok36 : Facts Tryz.prog glX tb36 := ⟨t35, tok35⟩
theorem t36 : KFX fa36 := k36 tok36
theorem tok37 : Facts Tryz.prog glX tb37 := ⟨t36, tok36⟩
theorem t37 : KFX fa37 := k37 tok37
theorem tok38 : Facts Tryz.prog glX tb38 := ⟨t37, tok37⟩
theorem t38 : KFX fa38 := k38 tok38
theorem tok39 : Facts Tryz.prog glX tb39 := ⟨t38, tok38⟩
theorem t39 : KFX fa39 := k39 tok39
end Go.Proofs.YtbionhgjgcpogaaGreatDoor
namespace Go.Proofs.YtbionhgjgcpogaaGreatDoor
open Go Go.Proofs.YtbionhgjgcpogaaGreatDoor.Clean
set_option linter.unusedVariables false
set_option linter.unusedSimpArgs false
set_option maxRecDepth 10000
theorem askM.uniq {l : List Kd} {m : List Bk} {e f : Int} (h : askM l m e) (g : askM l m f) : e = f := by
  rcases h with ⟨h1, h2⟩ | ⟨h1, h2, h3⟩ | ⟨h1, h2, h3⟩ | ⟨h1, h2, h3, h4⟩ | ⟨h1, h2⟩ <;> rcases g with ⟨g1, g2⟩ | ⟨g1, g2, g3⟩ | ⟨g1, g2, g3⟩ | ⟨g1, g2, g3, g4⟩ | ⟨g1, g2⟩ <;> first | omega | exact (h2 g1).elim | exact (g2 h1).elim | exact (h2 g1.kinds).elim | exact (g2 h1.kinds).elim | exact (h3 g1.all).elim | exact (g3 h1.all).elim | (have := h1.few; omega) | (have := g1.few; omega) | (have := h1.1; omega) | (have := g1.1; omega) | (have := h1.kinds.1; omega) | (have := g1.kinds.1; omega)
theorem errM.uniq {l : List Kd} {m : List Bk} {e f : Int} (h : errM l m e) (g : errM l m f) : e = f := by
  rcases h with ⟨h1, h2⟩ | ⟨h1, h2, h3⟩ <;> rcases g with ⟨g1, g2⟩ | ⟨g1, g2, g3⟩
  · exact h1.uniq g1
  · exact (h2 (h1.uniq (.inr (.inr (.inr (.inr ⟨g1, rfl⟩)))))).elim
  · exact (g2 (g1.uniq (.inr (.inr (.inr (.inr ⟨h1, rfl⟩)))))).elim
  · omega
theorem errM.no {l : List Kd} {m : List Bk} {e : Int} (h : errM l m e) (g : OkM l m) : False := by
  rcases h with ⟨h1, h2⟩ | ⟨h1, h2, h3⟩
  · exact h2 (h1.uniq (.inr (.inr (.inr (.inr ⟨g.ask, rfl⟩)))))
  · exact h2 g.free
theorem hd_of {L : List Lk} : ∀ p : Nat, ∃ i, i ≤ p ∧ key (at_ L i) = key (at_ L p) ∧ Hd L i
  | 0 => ⟨0, Nat.le_refl _, rfl, .inl rfl⟩
  | p + 1 => by
    by_cases h : Hd L (p + 1)
    · exact ⟨p + 1, Nat.le_refl _, rfl, h⟩
    · obtain ⟨i, h1, h2, h3⟩ := hd_of (L := L) p
      have : key (at_ L p) = key (at_ L (p + 1)) := by
        refine Classical.byContradiction fun hn => h (.inr ?_)
        rw [Nat.add_sub_cancel]
        exact hn
      exact ⟨i, by omega, h2.trans this, h3⟩
theorem own_hd {L : List Lk} {i : Nat} (hi : i < L.length) : (owL L i).headD lk0 ∈ owL L i := by
  have hm : at_ L i ∈ owL L i := List.mem_filter.2 ⟨mem_at (at_get hi), by simp⟩
  cases ho : owL L i with
  | nil => rw [ho] at hm; simp at hm
  | cons x L => simp
theorem jnt_of {l : List Bdy} {x : Lk} (h : x ∈ lnk l) : ∃ j ∈ jnt l, j.1 = x.1 ∧ j.2.1 = x.2.1 := by
  obtain ⟨p, hp⟩ := List.mem_iff_getElem?.1 h
  have hpl := (List.getElem?_eq_some_iff.1 hp).1
  have hx : x = at_ (lnk l) p := by rw [at_get hpl] at hp; exact (Option.some.inj hp).symm
  obtain ⟨i, h1, h2, h3⟩ := hd_of (L := lnk l) p
  have hi : i < (lnk l).length := by omega
  have hh := (List.mem_filter.1 (own_hd hi)).2
  have hk : key ((owL (lnk l) i).headD lk0) = key (at_ (lnk l) i) := by simpa using hh
  have hk2 := key_eq.1 (hk.trans (h2.trans (congrArg key hx.symm)))
  refine ⟨joF l (owL (lnk l) i), ?_, hk2.1, hk2.2⟩
  unfold jnt jnS
  refine List.mem_flatMap.2 ⟨i, List.mem_range.2 hi, ?_⟩
  rw [dc_t h3, if_pos rfl]
  simp
theorem jnt_has {l : List Bdy} {j : Jt} (h : j ∈ jnt l) : ∃ x ∈ lnk l, x.1 = j.1 ∧ x.2.1 = j.2.1 := by
  unfold jnt jnS at h
  obtain ⟨i, hi, hj⟩ := List.mem_flatMap.1 h
  split at hj
  · rw [List.mem_singleton.1 hj]
    exact ⟨_, (List.mem_filter.1 (own_hd (List.mem_range.1 hi))).1, rfl, rfl⟩
  · simp at hj
theorem adj_lnk {l : List Bdy} {a b : Nat} : Adj (jnt l) a b ↔ ∃ x ∈ lnk l, (x.1 = (a : Int) ∧ x.2.1 = (b : Int)) ∨ (x.1 = (b : Int) ∧ x.2.1 = (a : Int)) := by
  constructor
  · rintro ⟨j, hj, h⟩
    obtain ⟨x, hx, h1, h2⟩ := jnt_has hj
    exact ⟨x, hx, by rw [h1, h2]; exact h⟩
  · rintro ⟨x, hx, h⟩
    obtain ⟨j, hj, h1, h2⟩ := jnt_of hx
    exact ⟨j, hj, by rw [h1, h2]; exact h⟩
theorem lnk_rg {l : List Bdy} {x : Lk} (h : x ∈ lnk l) : ∃ a b : Nat, x.1 = (a : Int) ∧ x.2.1 = (b : Int) ∧ a < b ∧ b < l.length := by
  obtain ⟨a, b, i, j, k, o, h1, h2, _, _, _, h6⟩ := mem_lnk.1 h
  exact ⟨a, b, by rw [h6], by rw [h6], h1, h2⟩
theorem Con.leaves {js : List Jt} {p : Nat → Prop} {a b : Nat} (h : Con js a b) (ha : p a) (hb : ¬ p b) : ∃ x y, Adj js x y ∧ p x ∧ ¬ p y := by
  induction h with
  | refl => exact (hb ha).elim
  | @step b c _ e ih =>
    by_cases hp : p b
    · exact ⟨b, c, e, hp, hb⟩
    · exact ih hp
theorem GrpP.root {js : List Jt} {n : Nat} {g : List Int} (h : GrpP js n g) {v u : Nat} (hv : v < n) (hu : gat g v = (u : Int)) : gat g u = (u : Int) := by
  obtain ⟨u', h1, h2, h3, h4⟩ := h.lea v hv
  have e : u = u' := by omega
  subst e
  obtain ⟨w, g1, g2, g3, g4⟩ := h.lea u (by omega)
  have := h4 w (g3.trans h3)
  rw [g1]
  omega
theorem GrpP.same {js : List Jt} {n : Nat} {g : List Int} (h : GrpP js n g) {v w : Nat} (hv : v < n) (hw : w < n) (hc : Con js v w) : gat g v = gat g w := by
  obtain ⟨a, h1, h2, h3, h4⟩ := h.lea v hv
  obtain ⟨b, g1, g2, g3, g4⟩ := h.lea w hw
  have e1 := h4 b (g3.trans hc.symm)
  have e2 := g4 a (h3.trans hc)
  rw [h1, g1]
  omega
theorem GrpP.con {js : List Jt} {n : Nat} {g : List Int} (h : GrpP js n g) {v w : Nat} (hv : v < n) (hw : w < n) (he : gat g v = gat g w) : Con js v w := by
  obtain ⟨a, h1, h2, h3, h4⟩ := h.lea v hv
  obtain ⟨b, g1, g2, g3, g4⟩ := h.lea w hw
  have : a = b := by omega
  subst this
  exact h3.symm.trans g3
theorem GrpP.uniq {js : List Jt} {n : Nat} {g g' : List Int} (h : GrpP js n g) (h' : GrpP js n g') : g = g' := by
  refine List.ext_getElem? (fun v => ?_)
  by_cases hv : v < n
  · rw [gat_get (by rw [h.len]; exact hv), gat_get (by rw [h'.len]; exact hv)]
    obtain ⟨a, h1, h2, h3, h4⟩ := h.lea v hv
    obtain ⟨b, g1, g2, g3, g4⟩ := h'.lea v hv
    have e1 := h4 b g3
    have e2 := g4 a h3
    rw [h1, g1, show a = b from by omega]
  · rw [List.getElem?_eq_none (by rw [h.len]; omega), List.getElem?_eq_none (by rw [h'.len]; omega)]
theorem ngel {g : List Int} {n v : Nat} {k : Int → Prop} (h : g.length = n) (hv : v < n) (hk : k (gat g v)) : onSome (nl g)[v]? fun row => onSome row[0]? fun v => onIntK IntKind.i64 v fun n => k n := iel (gat_get (by omega)) hk
theorem greatK {l : List Kd} {m : List Bk} (h : ¬ GreatP l m) (hr : ∀ q ∈ l, ∀ k ∈ q.2.1, KnR k) : l.length ≤ 20 ∧ ∀ q ∈ l, KdR q := by
  refine ⟨Nat.le_of_not_lt fun x => h (.inl x), fun q hq => ⟨hr q hq, Nat.le_of_not_lt fun x => h (.inr (.inr ⟨q, hq, .inl x⟩)), Nat.le_of_not_lt fun x => h (.inr (.inr ⟨q, hq, .inr x⟩))⟩⟩
theorem great45 {l : List Kd} {m : List Bk} (h : ¬ GreatP l m) : m.length ≤ 45 := by
  unfold GreatP at h
  rcases Nat.lt_or_ge 45 m.length with g | g
  · exact (h (.inr (.inl g))).elim
  · exact g
end Go.Proofs.YtbionhgjgcpogaaGreatDoor
namespace Go.Proofs.YtbionhgjgcpogaaGreatDoor
open Go Go.Proofs.YtbionhgjgcpogaaGreatDoor.Clean
set_option linter.unusedVariables false
set_option maxRecDepth 100000
def bl (l : List Bool) : List (List V) := l.map fun b => [bv b]
def kp8 : FuncId → Nat → Option (List Tmp) := slotsOf [(8, 0, [5, 6, 8, 10, 55, 56, 57]), (8, 2, [5, 6, 8, 10, 85, 86]), (8, 4, [5, 6, 8, 10, 85, 86, 88, 89, 90]), (8, 6, [5, 127, 128, 129])]
noncomputable def cf8 : Cfg := { cfgG Tryz.prog glX moZ poP (rtP fN) (inN []) kp8 with clean := fun g => true }
noncomputable def sh8a (g : List Int) (s : Nat) (es : List (List V)) (rs : List (List V)) (n i : Nat) : St := ⟨mkT [(5, bv true), (6, V.lst 1 (nl g)), (8, V.lst s es), (10, V.sl (Id.p 0) 0 n), (55, V.lst 1 (nl g)), (56, iv (n : Int)), (57, iv (i : Int))], ⟨[(0, O.rows 1 true rs)], 1, []⟩⟩
noncomputable def sh8b (g : List Int) (s : Nat) (es : List (List V)) (rs : List (List V)) (n i : Nat) : St := ⟨mkT [(5, bv true), (6, V.lst 1 (nl g)), (8, V.lst s es), (10, V.sl (Id.p 0) 0 n), (85, iv (n : Int)), (86, iv (i : Int))], ⟨[(0, O.rows 1 true rs)], 1, []⟩⟩
noncomputable def sh8c (g : List Int) (L : List Lk) (s : Nat) (rs : List (List V)) (n i t k : Nat) : St := ⟨mkT [(5, bv true), (6, V.lst 1 (nl g)), (8, V.lst s (lkl L)), (10, V.sl (Id.p 0) 0 n), (85, iv (n : Int)), (86, iv (i : Int)), (88, V.lst s (lkl L)), (89, iv (t : Int)), (90, iv (k : Int))], ⟨[(0, O.rows 1 true rs)], 1, []⟩⟩
noncomputable def sh8d (rs : List (List V)) (n i : Nat) : St := ⟨mkT [(5, bv true), (127, V.sl (Id.p 0) 0 n), (128, iv (n : Int)), (129, iv (i : Int))], ⟨[(0, O.rows 1 true rs)], 1, []⟩⟩
end Go.Proofs.YtbionhgjgcpogaaGreatDoor
namespace Go.Proofs.YtbionhgjgcpogaaGreatDoor
open Go Go.Proofs.YtbionhgjgcpogaaGreatDoor.Clean
set_option linter.unusedVariables false
set_option linter.unusedSimpArgs false
set_option maxRecDepth 10000
theorem hc8 : cf8.ok Tryz.prog := by
  have h : (cfgG Tryz.prog glX moZ poP (rtP fN) (inN []) kp8).ok Tryz.prog := cfgG_ok (rtP_ok fN)
  exact ⟨h.1, h.2⟩
def bat (rb : List Bool) (v : Nat) : Bool := rb.getD v false
theorem bat_get {rb : List Bool} {v : Nat} (h : v < rb.length) : rb[v]? = some (bat rb v) := by
  unfold bat
  rw [List.getD_eq_getElem?_getD]
  simp [h]
theorem brow {rb : List Bool} {v : Nat} (h : v < rb.length) : (bl rb)[0 + v]? = some [bv (bat rb v)] := by rw [Nat.zero_add]; simp [bl, bat_get h]
theorem bl_length (rb : List Bool) : (bl rb).length = rb.length := by simp [bl]
theorem bl_set {rb : List Bool} {a : Nat} {x y : Bool} : (bl rb).set (0 + a) (bv x :: List.append [] (List.drop 1 [bv y])) = bl (rb.set a x) := by
  rw [Nat.zero_add]
  refine List.ext_getElem? (fun i => ?_)
  simp only [bl, List.getElem?_map, List.getElem?_set, List.length_map]
  split
  · split <;> rfl
  · rfl
theorem bat_set {rb : List Bool} {a v : Nat} {x : Bool} (h : a < rb.length) : bat (rb.set a x) v = if a = v then x else bat rb v := by
  unfold bat
  rw [List.getD_eq_getElem?_getD, List.getD_eq_getElem?_getD, List.getElem?_set]
  by_cases e : a = v
  · subst e; simp [h]
  · simp [e]
theorem bat_set2 {rb : List Bool} {a b v : Nat} (h : a < rb.length) (h' : b < rb.length) : bat ((rb.set a true).set b true) v = if b = v then true else if a = v then true else bat rb v := by
  rw [bat_set (by rw [List.length_set]; exact h'), bat_set h]
def cnB (rb : List Bool) (n : Nat) : Nat := ((List.range n).filter fun v => bat rb v).length
theorem cnB_succ (rb : List Bool) (n : Nat) : cnB rb (n + 1) = cnB rb n + if bat rb n = true then 1 else 0 := by
  unfold cnB
  rw [List.range_succ, List.filter_append, List.length_append]
  by_cases h : bat rb n = true <;> simp [h]
theorem cnB_le {p q : List Bool} (h : ∀ v, bat p v = true → bat q v = true) : ∀ n, cnB p n ≤ cnB q n
  | 0 => by simp [cnB]
  | n + 1 => by
    have := cnB_le h n
    rw [cnB_succ, cnB_succ]
    by_cases g : bat p n = true
    · rw [if_pos g, if_pos (h n g)]; omega
    · rw [if_neg g]; split <;> omega
theorem cnB_lt {p q : List Bool} (h : ∀ v, bat p v = true → bat q v = true) {b : Nat} (h1 : ¬ bat p b = true) (h2 : bat q b = true) : ∀ n, b < n → cnB p n < cnB q n
  | 0, hb => by omega
  | n + 1, hb => by
    rw [cnB_succ, cnB_succ]
    rcases Nat.lt_succ_iff_lt_or_eq.1 hb with g | g
    · have := cnB_lt h h1 h2 n g
      by_cases e : bat p n = true
      · rw [if_pos e, if_pos (h n e)]; omega
      · rw [if_neg e]; split <;> omega
    · subst g
      have := cnB_le h b
      rw [if_neg h1, if_pos h2]
      omega
theorem cnB_all {p : List Bool} : ∀ n, n ≤ cnB p n → ∀ v, v < n → bat p v = true
  | 0, _, v, hv => by omega
  | n + 1, h, v, hv => by
    rw [cnB_succ] at h
    have hle : cnB p n ≤ n := by
      have := List.length_filter_le (fun v => bat p v) (List.range n)
      unfold cnB
      simpa using this
    by_cases g : bat p n = true
    · rw [if_pos g] at h
      rcases Nat.lt_succ_iff_lt_or_eq.1 hv with e | e
      · exact cnB_all n (by omega) v e
      · rw [e]; exact g
    · rw [if_neg g] at h
      omega
def roots (g : List Int) (i : Nat) : List Bool := (List.range i).map fun v => gat g v == (v : Int)
set_option maxHeartbeats 2000000 in
theorem law8 {l : List Kd} {m : List Bk} {R : V → Prop} (hlk : ∀ q ∈ l, ∀ x ∈ q.2.1, KnR x) (hr : ∀ b ∈ m, BkR b) (h : R (bv true)) : K0G Tryz.prog glX 8 [.lst 3 (kdl l), .agg [.lst 6 (bkl m)]] R := by
  refine K0_by hmX hc8 3000 Tryz.func8 (p := K0G Tryz.prog glX 37 [] fun v => onBool v fun b => K0G Tryz.prog glX 12 [V.lst 3 (kdl l), V.agg [V.lst 6 (bkl m)]] fun v => onBool v fun b_1 => ifB b_1 (R (bv b)) (K0G Tryz.prog glX 35 [V.lst 3 (kdl l), V.agg [V.lst 6 (bkl m)]] fun v => onTup v fun vs => onCons vs fun u r => onLst u fun s es => onCons r fun u r => onIntK IntKind.i64 u fun n => onNil r (K0G Tryz.prog glX 29 [V.lst 3 (kdl l), V.agg [V.lst 6 (bkl m)]] fun v => onTup v fun vs => onCons vs fun u r => onLst u fun s_1 es_1 => onCons r fun u r => onIntK IntKind.i64 u fun n_1 => onNil r (ifB (n != (0 : Int)) (ifB b (R (bv (n == n_1))) (R (bv false))) (ifB (n_1 != (0 : Int)) (ifB b (R (bv (n == n_1))) (R (bv false))) (ifB ((↑es.length : Int) != (↑(bkl m).length : Int)) (R (bv false)) (need (es.length ≤ es.length) (need (1 * es.length ≤ 140737488355328) (need (es.length ≤ 9223372036854775807) (La 0 [(5 : Tmp), (6 : Tmp), (8 : Tmp), (10 : Tmp), (55 : Tmp), (56 : Tmp), (57 : Tmp)] (WY Tryz.prog cf8 2988 (Env.mk (Bs.mk 0 []) 0 none 137 8 0) (cdAt [1, 1, 1, 1, 1, 1, 1, 1, 0, 1, 0, 0] (bodyOf Tryz.f8))) (Qblk 0 (Qthen (WY Tryz.prog cf8 2991 (Env.mk (Bs.mk 0 []) 0 none 137 8 0) (cdAt [1, 1, 1, 1, 1, 1, 1, 1, 1] (bodyOf Tryz.f8)) (QendX Tryz.prog Tryz.f8 fun v h => R (frzW h v))) (QendX Tryz.prog Tryz.f8 fun v h => R (frzW h v)))) (St.mk (mkT [(5, bv b), (6, V.lst s es), (8, V.lst s_1 es_1), (10, V.sl (Id.p 0) 0 es.length), (55, V.lst s es), (56, iv (↑es.length : Int)), (57, iv (0 : Int))]) (Hp.mk [(0, O.rows 1 true (List.replicate es.length [bv false]))] 1 [])))))))))))) (by kernel_rfl) ?_
  refine K0G.mono (show K0G Tryz.prog glX 37 [] fun v => v = bv true from t37) (fun v hv => ?_)
  subst hv
  refine onBool_bv (great12 (onBool_bv (ifB_mk (fun _ => h) (fun c1 => ?_))))
  obtain ⟨hl20, hl⟩ := greatK (dc_false c1) hlk
  have hm45 := great45 (dc_false c1)
  have hll : (l.length : Int) ≤ 1000000 := by omega
  have hml : m.length ≤ 1000000 := by omega
  refine groups35 hl hll hml hr (fun e he hne => onTup_tup (onCons_cons (onLst_nil (onCons_cons (onIntK_iv (onNil_nil ?_)))))) (fun hA g hG => onTup_tup (onCons_cons (onLst_lst (onCons_cons (onIntK_iv (onNil_nil ?_))))))
  · refine links29 hl hll hml hr (fun e' he' hne' => onTup_tup (onCons_cons (onLst_nil (onCons_cons (onIntK_iv (onNil_nil (ifB_t (by simpa using hne) (ifB_t rfl ?_)))))))) (fun hA => (he.no hA).elim) (fun hA => (he.no hA).elim)
    rw [he.uniq he']
    simpa using h
  obtain ⟨n, hn⟩ : ∃ n, n = m.length := ⟨_, rfl⟩
  have hnb : (bods l m).length = n := by rw [bods_length, hn]
  rw [← hn] at hG
  have hgl : (nl g).length = n := by rw [nl_length, hG.len]
  have hn45 : n ≤ 45 := by omega
  obtain ⟨L, hL⟩ : ∃ L, L = lnk (bods l m) := ⟨_, rfl⟩
  have main : ∀ t, (t = 5 ∨ L = []) → La 0 [(5 : Tmp), (6 : Tmp), (8 : Tmp), (10 : Tmp), (55 : Tmp), (56 : Tmp), (57 : Tmp)] (WY Tryz.prog cf8 2988 (Env.mk (Bs.mk 0 []) 0 none 137 8 0) (cdAt [1, 1, 1, 1, 1, 1, 1, 1, 0, 1, 0, 0] (bodyOf Tryz.f8))) (Qblk 0 (Qthen (WY Tryz.prog cf8 2991 (Env.mk (Bs.mk 0 []) 0 none 137 8 0) (cdAt [1, 1, 1, 1, 1, 1, 1, 1, 1] (bodyOf Tryz.f8)) (QendX Tryz.prog Tryz.f8 fun v h => R (frzW h v))) (QendX Tryz.prog Tryz.f8 fun v h => R (frzW h v)))) (sh8a g t (lkl L) (List.replicate n [bv false]) n 0) := by
    intro t ht
    obtain ⟨es, hes⟩ : ∃ es, es = lkl L := ⟨_, rfl⟩
    rw [← hes]
    obtain ⟨s, hs⟩ : ∃ s, s = t := ⟨_, rfl⟩
    rw [← hs]
    refine La.of (σ := Nat) (fun i => sh8a g s es (bl (roots g i) ++ List.replicate (n - i) [bv false]) n i) (fun i => i ≤ n) (fun i => n - i) 0 (by kernel_rfl) (by omega) ?_
    rintro i g1 J hJ
    obtain ⟨rs, hrs⟩ : ∃ rs, rs = bl (roots g i) ++ List.replicate (n - i) [bv false] := ⟨_, rfl⟩
    rw [← hrs]
    have hA' : (bl (roots g i)).length = i := by rw [bl_length]; simp [roots]
    refine see (p := ifB (decide ((↑i : Int) < (↑n : Int))) (onSome (nl g)[i]? fun row => onSome row[0]? fun v => onIntK IntKind.i64 v fun n_1 => ifB (decide (n_1 < (0 : Int))) (R (bv false)) (ifB (decide (n_1 > (↑i : Int))) (R (bv false)) (onNat n_1 fun m => onSome (nl g)[m]? fun row => onSome row[0]? fun v => onIntK IntKind.i64 v fun n_2 => ifB (n_2 != n_1) (R (bv false)) (need (i < n) (onSome rs[0 + i]? fun row => guardB ((0 + 1).ble row.length) (J (St.mk (mkT [(5, bv true), (6, V.lst 1 (nl g)), (8, V.lst s es), (10, V.sl (Id.p 0) 0 n), (55, V.lst 1 (nl g)), (56, iv (↑n : Int)), (57, iv (IntKind.i64.wrap ((↑i : Int) + (1 : Int))))]) (Hp.mk [(0, O.rows 1 true (rs.set (0 + i) (bv (n_1 == (↑i : Int)) :: (List.append []) (List.drop 1 row))))] 1 [])))))))) (La 0 [(5 : Tmp), (6 : Tmp), (8 : Tmp), (10 : Tmp), (85 : Tmp), (86 : Tmp)] (WY Tryz.prog cf8 2987 (Env.mk (Bs.mk 0 []) 0 none 137 8 2) (cdAt [1, 1, 1, 1, 1, 1, 1, 1, 1, 0, 1, 0, 0] (bodyOf Tryz.f8))) (Qblk 2 (Qthen (WY Tryz.prog cf8 2990 (Env.mk (Bs.mk 0 []) 0 none 137 8 0) (cdAt [1, 1, 1, 1, 1, 1, 1, 1, 1, 1] (bodyOf Tryz.f8)) (QendX Tryz.prog Tryz.f8 fun v h => R (frzW h v))) (QendX Tryz.prog Tryz.f8 fun v h => R (frzW h v)))) (St.mk (mkT [(5, bv true), (6, V.lst 1 (nl g)), (8, V.lst s es), (10, V.sl (Id.p 0) 0 n), (85, iv (↑(nl g).length : Int)), (86, iv (0 : Int))]) (Hp.mk [(0, O.rows 1 true rs)] 1 [])))) (by kernel_rfl) ?_
    refine ifB_mk (fun d => ?_) (fun d => ?_)
    · have hi : i < n := by have := of_decide_eq_true d; omega
      obtain ⟨u, u1, u2, u3, u4⟩ := hG.lea i hi
      have u5 := hG.root hi u1
      refine ngel hG.len hi (ifB_f (by rw [u1]; simp) (ifB_f (by rw [u1]; simp; omega) (onNat_mk (m := u) u1 (ngel hG.len (by omega) (ifB_f (by rw [u1, u5]; simp) (need_mk ⟨hi, onSome_mk (x := [bv false]) ?_ (guardB_mk rfl ?_)⟩))))))
      · rw [hrs, Nat.zero_add, List.getElem?_append_right (by omega), hA', Nat.sub_self, List.getElem?_replicate, if_pos (by omega)]
      · rw [wr1i hi (by omega)]
        have e : rs.set (0 + i) (bv (gat g i == (i : Int)) :: (List.append []) (List.drop 1 [bv false])) = bl (roots g (i + 1)) ++ List.replicate (n - (i + 1)) [bv false] := by
          rw [hrs, Nat.zero_add, set_rep hA' hi]
          simp [roots, bl, List.range_succ]
        refine (congrArg J ?_).mp (hJ (i + 1) hi (by omega))
        rw [← e]
        rfl
    · have hi : i = n := by have := of_decide_eq_false d; omega
      have e : rs = bl (roots g n) := by rw [hrs, hi, Nat.sub_self]; simp
      rw [e, hgl, hes]
      subst hs
      obtain ⟨t, ht'⟩ : ∃ t, t = s := ⟨_, rfl⟩
      rw [← ht'] at ht ⊢
      have rt0 : ∀ v, v < n → bat (roots g n) v = (gat g v == (v : Int)) := fun v hv => by
        unfold bat roots
        rw [List.getD_eq_getElem?_getD]
        simp [hv]
      refine La.of (σ := Nat × List Bool) (fun q => sh8b g t (lkl L) (bl q.2) n q.1) (fun q => q.1 ≤ n ∧ q.2.length = n ∧ (∀ v, v < n → gat g v = (v : Int) → bat q.2 v = true) ∧ ((∀ v, v < n → bat q.2 v = true) ∨ q.1 ≤ cnB q.2 n)) (fun q => n - q.1) (0, roots g n) (by kernel_rfl) ⟨by simp only; omega, by simp [roots], fun v hv he => by rw [rt0 v hv, he]; simp, .inr (Nat.zero_le _)⟩ ?_
      clear hJ g1 e hrs hA'
      rintro ⟨i, rb⟩ ⟨g1, g2, g3, g4⟩ J hJ
      simp only at g1 g2 g3 g4
      obtain ⟨rs, hrs⟩ : ∃ rs, rs = bl rb := ⟨_, rfl⟩
      rw [← hrs]
      refine see (p := ifB (decide ((↑i : Int) < (↑n : Int))) (La 0 [(5 : Tmp), (6 : Tmp), (8 : Tmp), (10 : Tmp), (85 : Tmp), (86 : Tmp), (88 : Tmp), (89 : Tmp), (90 : Tmp)] (WY Tryz.prog cf8 2980 (Env.mk (Bs.mk 0 []) 0 none 137 8 4) (cdAt [1, 1, 1, 1, 1, 1, 1, 1, 1, 0, 1, 0, 0, 1, 1, 0, 0, 1, 0, 0] (bodyOf Tryz.f8))) (Qblk 4 (Qblk 3 (Qthen (WY Tryz.prog cf8 2984 (Env.mk (Bs.mk 0 []) 0 none 137 8 2) (cdAt [1, 1, 1, 1, 1, 1, 1, 1, 1, 0, 1, 0, 0, 1, 1, 1] (bodyOf Tryz.f8)) (Qla 0 [(5 : Tmp), (6 : Tmp), (8 : Tmp), (10 : Tmp), (85 : Tmp), (86 : Tmp)] J (Qblk 2 (Qthen (WY Tryz.prog cf8 2990 (Env.mk (Bs.mk 0 []) 0 none 137 8 0) (cdAt [1, 1, 1, 1, 1, 1, 1, 1, 1, 1] (bodyOf Tryz.f8)) (QendX Tryz.prog Tryz.f8 fun v h => R (frzW h v))) (QendX Tryz.prog Tryz.f8 fun v h => R (frzW h v)))))) (Qla 0 [(5 : Tmp), (6 : Tmp), (8 : Tmp), (10 : Tmp), (85 : Tmp), (86 : Tmp)] J (Qblk 2 (Qthen (WY Tryz.prog cf8 2990 (Env.mk (Bs.mk 0 []) 0 none 137 8 0) (cdAt [1, 1, 1, 1, 1, 1, 1, 1, 1, 1] (bodyOf Tryz.f8)) (QendX Tryz.prog Tryz.f8 fun v h => R (frzW h v))) (QendX Tryz.prog Tryz.f8 fun v h => R (frzW h v)))))))) (St.mk (mkT [(5, bv true), (6, V.lst 1 (nl g)), (8, V.lst t (lkl L)), (10, V.sl (Id.p 0) 0 n), (85, iv (↑n : Int)), (86, iv (↑i : Int)), (88, V.lst t (lkl L)), (89, iv (↑(lkl L).length : Int)), (90, iv (0 : Int))]) (Hp.mk [(0, O.rows 1 true rs)] 1 []))) (La 0 [(5 : Tmp), (127 : Tmp), (128 : Tmp), (129 : Tmp)] (WY Tryz.prog cf8 2986 (Env.mk (Bs.mk 0 []) 0 none 137 8 6) (cdAt [1, 1, 1, 1, 1, 1, 1, 1, 1, 1, 0, 1, 0, 0] (bodyOf Tryz.f8))) (Qblk 6 (Qthen (WY Tryz.prog cf8 2989 (Env.mk (Bs.mk 0 []) 0 none 137 8 0) (cdAt [1, 1, 1, 1, 1, 1, 1, 1, 1, 1, 1] (bodyOf Tryz.f8)) (QendX Tryz.prog Tryz.f8 fun v h => R (frzW h v))) (QendX Tryz.prog Tryz.f8 fun v h => R (frzW h v)))) (St.mk (mkT [(5, bv true), (127, V.sl (Id.p 0) 0 n), (128, iv (↑n : Int)), (129, iv (0 : Int))]) (Hp.mk [(0, O.rows 1 true rs)] 1 [])))) (by kernel_rfl) ?_
      rw [hrs]
      refine ifB_mk (fun d => ?_) (fun d => ?_)
      · have hi : i < n := by have := of_decide_eq_true d; omega
        obtain ⟨s, hs⟩ : ∃ s, s = (lkl L).length := ⟨_, rfl⟩
        rw [← hs]
        rw [lkl_length] at hs
        refine La.of (σ := Nat × List Bool) (fun q => sh8c g L t (bl q.2) n i s q.1) (fun q => q.1 ≤ s ∧ q.2.length = n ∧ (∀ v, bat rb v = true → bat q.2 v = true) ∧ ∀ x ∈ L.take q.1, ∀ a b : Nat, x.1 = (a : Int) → x.2.1 = (b : Int) → bat rb a = true ∨ bat rb b = true → bat q.2 a = true ∧ bat q.2 b = true) (fun q => s - q.1) (0, rb) (by kernel_rfl) ⟨by simp only; omega, g2, fun v hv => hv, by simp⟩ ?_
        rintro ⟨k, rb'⟩ ⟨f1, f2, f3, f4⟩ I hI
        simp only at f1 f2 f3 f4
        obtain ⟨rs, hrs⟩ : ∃ rs, rs = bl rb' := ⟨_, rfl⟩
        rw [← hrs]
        refine see (p := ifB (decide ((↑k : Int) < (↑s : Int))) (need (t = 5) (onSome (lkl L)[k]? fun row => onCons (List.drop 0 row) fun u r => onIntK IntKind.i64 u fun n_1 => onCons r fun u r => onIntK IntKind.i64 u fun n_2 => onCons r fun u r => onIntK IntKind.i64 u fun n_3 => onCons r fun u r => onIntK IntKind.i64 u fun n_4 => onCons r fun u r => onIntK IntKind.u8 u fun n_5 => onNat n_1 fun m => onSome (nl g)[m]? fun row => onSome row[0]? fun v => onIntK IntKind.i64 v fun n_6 => onNat n_2 fun m => onSome (nl g)[m]? fun row => onSome row[0]? fun v => onIntK IntKind.i64 v fun n_7 => ifB (n_6 != n_7) (R (bv false)) (onNat n_1 fun m => need (m < n) (onSome rs[0 + m]? fun row => onSome row[0]? fun v => onBool v fun b => ifB b (onNat n_1 fun m => need (m < n) (onSome rs[0 + m]? fun row => guardB ((0 + 1).ble row.length) (onNat n_2 fun m_1 => need (m_1 < n) (onSome (rs.set (0 + m) (bv true :: (List.append []) (List.drop 1 row)))[0 + m_1]? fun row_1 => guardB ((0 + 1).ble row_1.length) (I (St.mk (mkT [(5, bv true), (6, V.lst 1 (nl g)), (8, V.lst t (lkl L)), (10, V.sl (Id.p 0) 0 n), (85, iv (↑n : Int)), (86, iv (↑i : Int)), (88, V.lst t (lkl L)), (89, iv (↑s : Int)), (90, iv (IntKind.i64.wrap ((↑k : Int) + (1 : Int))))]) (Hp.mk [(0, O.rows 1 true ((rs.set (0 + m) (bv true :: (List.append []) (List.drop 1 row))).set (0 + m_1) (bv true :: (List.append []) (List.drop 1 row_1))))] 1 []))))))) (onNat n_2 fun m => need (m < n) (onSome rs[0 + m]? fun row => onSome row[0]? fun v => onBool v fun b => ifB b (onNat n_1 fun m => need (m < n) (onSome rs[0 + m]? fun row => guardB ((0 + 1).ble row.length) (onNat n_2 fun m_1 => need (m_1 < n) (onSome (rs.set (0 + m) (bv true :: (List.append []) (List.drop 1 row)))[0 + m_1]? fun row_1 => guardB ((0 + 1).ble row_1.length) (I (St.mk (mkT [(5, bv true), (6, V.lst 1 (nl g)), (8, V.lst t (lkl L)), (10, V.sl (Id.p 0) 0 n), (85, iv (↑n : Int)), (86, iv (↑i : Int)), (88, V.lst t (lkl L)), (89, iv (↑s : Int)), (90, iv (IntKind.i64.wrap ((↑k : Int) + (1 : Int))))]) (Hp.mk [(0, O.rows 1 true ((rs.set (0 + m) (bv true :: (List.append []) (List.drop 1 row))).set (0 + m_1) (bv true :: (List.append []) (List.drop 1 row_1))))] 1 []))))))) (I (St.mk (mkT [(5, bv true), (6, V.lst 1 (nl g)), (8, V.lst t (lkl L)), (10, V.sl (Id.p 0) 0 n), (85, iv (↑n : Int)), (86, iv (↑i : Int)), (88, V.lst t (lkl L)), (89, iv (↑s : Int)), (90, iv (IntKind.i64.wrap ((↑k : Int) + (1 : Int))))]) (Hp.mk [(0, O.rows 1 true rs)] 1 []))))))))) (J (St.mk (mkT [(5, bv true), (6, V.lst 1 (nl g)), (8, V.lst t (lkl L)), (10, V.sl (Id.p 0) 0 n), (85, iv (↑n : Int)), (86, iv (IntKind.i64.wrap ((↑i : Int) + (1 : Int))))]) (Hp.mk [(0, O.rows 1 true rs)] 1 [])))) (by kernel_rfl) ?_
        rw [hrs]
        refine ifB_mk (fun e => ?_) (fun e => ?_)
        · have hk : k < s := by have := of_decide_eq_true e; omega
          obtain ⟨x, hx⟩ := getI (l := L) (k := k) (by omega)
          have hxm : x ∈ lnk (bods l m) := hL ▸ mem_at hx
          obtain ⟨a, b, hxa, hxb, hab, hbn⟩ := lnk_rg hxm
          rw [hnb] at hbn
          have ht5 : t = 5 := by
            rcases ht with ht | ht
            · exact ht
            · rw [ht] at hx; simp at hx
          have hs10 : s ≤ 1000000000 := by
            rw [hs, hL]
            exact lnk_few (bod_ok hl hr hA.ask) (bods60 hl hr hA.ask)
          have hco : Con (jnt (bods l m)) a b := (Con.refl a).step (adj_lnk.2 ⟨x, hxm, .inl ⟨hxa, hxb⟩⟩)
          have hsame := hG.same (by omega) hbn hco
          refine need_mk ⟨ht5, lel hx (onNat_mk (m := a) hxa (ngel hG.len (by omega) (onNat_mk (m := b) hxb (ngel hG.len hbn (ifB_f (by rw [hsame]; simp) (onNat_mk (m := a) hxa (need_mk ⟨by omega, onSome_mk (brow (by omega)) (onSome_mk (x := bv (bat rb' a)) rfl (onBool_bv ?_))⟩)))))))⟩
          have nb2 : ∀ y ∈ L.take (k + 1), ∀ a' b' : Nat, y.1 = (a' : Int) → y.2.1 = (b' : Int) → bat rb a' = true ∨ bat rb b' = true → bat ((rb'.set a true).set b true) a' = true ∧ bat ((rb'.set a true).set b true) b' = true := by
            intro y hy a' b' ya yb hor
            rw [take_succ' hx] at hy
            rcases List.mem_append.1 hy with hy | hy
            · obtain ⟨p1, p2⟩ := f4 y hy a' b' ya yb hor
              rw [bat_set2 (by omega) (by omega), bat_set2 (by omega) (by omega), p1, p2]
              exact ⟨by split; rfl; split <;> rfl, by split; rfl; split <;> rfl⟩
            · rw [List.mem_singleton.1 hy] at ya yb
              have e1 : a' = a := by omega
              have e2 : b' = b := by omega
              rw [bat_set2 (by omega) (by omega), bat_set2 (by omega) (by omega), e1, e2]
              exact ⟨by split; rfl; rw [if_pos rfl], by rw [if_pos rfl]⟩
          refine ifB_mk (fun c => ?_) (fun c => ?_)
          · refine onNat_mk (m := a) hxa (need_mk ⟨by omega, onSome_mk (brow (by omega)) (guardB_mk rfl ?_)⟩)
            rw [bl_set]
            refine onNat_mk (m := b) hxb (need_mk ⟨by omega, onSome_mk (brow (by rw [List.length_set]; omega)) (guardB_mk rfl ?_)⟩)
            rw [bl_set, wr1i hk (by omega)]
            exact hI (k + 1, (rb'.set a true).set b true) ⟨hk, by simp only; rw [List.length_set, List.length_set]; exact f2, fun v hv => by simp only; rw [bat_set2 (by omega) (by omega)]; split; rfl; split; rfl; exact f3 v hv, nb2⟩ (by simp only; omega)
          · refine onNat_mk (m := b) hxb (need_mk ⟨by omega, onSome_mk (brow (by omega)) (onSome_mk (x := bv (bat rb' b)) rfl (onBool_bv (ifB_mk (fun c2 => ?_) (fun c2 => ?_))))⟩)
            · refine onNat_mk (m := a) hxa (need_mk ⟨by omega, onSome_mk (brow (by omega)) (guardB_mk rfl ?_)⟩)
              rw [bl_set]
              refine onNat_mk (m := b) hxb (need_mk ⟨by omega, onSome_mk (brow (by rw [List.length_set]; omega)) (guardB_mk rfl ?_)⟩)
              rw [bl_set, wr1i hk (by omega)]
              exact hI (k + 1, (rb'.set a true).set b true) ⟨hk, by simp only; rw [List.length_set, List.length_set]; exact f2, fun v hv => by simp only; rw [bat_set2 (by omega) (by omega)]; split; rfl; split; rfl; exact f3 v hv, nb2⟩ (by simp only; omega)
            · rw [wr1i hk (by omega)]
              refine hI (k + 1, rb') ⟨hk, f2, f3, ?_⟩ (by simp only; omega)
              intro y hy a' b' ya yb hor
              simp only at hy ⊢
              rw [take_succ' hx] at hy
              rcases List.mem_append.1 hy with hy | hy
              · exact f4 y hy a' b' ya yb hor
              · rw [List.mem_singleton.1 hy] at ya yb
                have e1 : a' = a := by omega
                have e2 : b' = b := by omega
                rw [e1, e2] at hor
                rcases hor with hor | hor
                · rw [f3 a hor] at c; cases c
                · rw [f3 b hor] at c2; cases c2
        · have hk : s ≤ k := by have := of_decide_eq_false e; omega
          rw [List.take_of_length_le (by omega)] at f4
          rw [wr1i hi (by omega)]
          refine hJ (i + 1, rb') ⟨hi, f2, fun v hv he => f3 v (g3 v hv he), ?_⟩ (by simp only; omega)
          simp only
          by_cases hall : ∀ v, v < n → bat rb v = true
          · exact .inl (fun v hv => f3 v (hall v hv))
          · refine .inr ?_
            obtain ⟨v, hv⟩ := Classical.not_forall.1 hall
            have hvn : v < n := Classical.byContradiction fun q => hv (fun w => (q w).elim)
            have hvb : ¬ bat rb v = true := fun q => hv (fun _ => q)
            obtain ⟨u, u1, u2, u3, u4⟩ := hG.lea v hvn
            have u5 := hG.root hvn u1
            obtain ⟨x, y, h1, h2, h3⟩ := Con.leaves (p := fun w => bat rb w = true) u3 (g3 u (by omega) u5) hvb
            obtain ⟨z, hz, hzz⟩ := adj_lnk.1 h1
            rw [← hL] at hz
            have hy : bat rb' y = true := by
              rcases hzz with ⟨z1, z2⟩ | ⟨z1, z2⟩
              · exact (f4 z hz x y z1 z2 (.inl h2)).2
              · exact (f4 z hz y x z1 z2 (.inr h2)).1
            have hyn : y < n := by
              obtain ⟨a, b, q1, q2, q3, q4⟩ := lnk_rg (hL ▸ hz)
              rw [hnb] at q4
              omega
            have h4 := cnB_lt f3 h3 hy n hyn
            rcases g4 with g4 | g4
            · exact (hall g4).elim
            · omega
      · have hi : i = n := by have := of_decide_eq_false d; omega
        have all : ∀ v, v < n → bat rb v = true := by
          rcases g4 with g4 | g4
          · exact g4
          · exact cnB_all n (by omega)
        refine La.of (σ := Nat) (fun i => sh8d (bl rb) n i) (fun i => i ≤ n) (fun i => n - i) 0 (by kernel_rfl) (by omega) ?_
        clear hJ
        rintro i f1 J hJ
        obtain ⟨rs, hrs⟩ : ∃ rs, rs = bl rb := ⟨_, rfl⟩
        rw [← hrs]
        refine see (p := ifB (decide ((↑i : Int) < (↑n : Int))) (need (i < n) (onSome rs[0 + i]? fun row => onSome row[0]? fun v => onBool v fun b => ifB (!b) (R (bv false)) (J (St.mk (mkT [(5, bv true), (127, V.sl (Id.p 0) 0 n), (128, iv (↑n : Int)), (129, iv (IntKind.i64.wrap ((↑i : Int) + (1 : Int))))]) (Hp.mk [(0, O.rows 1 true rs)] 1 []))))) (R (bv true))) (by kernel_rfl) ?_
        rw [hrs]
        refine ifB_mk (fun d => ?_) (fun d => h)
        have hi : i < n := by have := of_decide_eq_true d; omega
        refine need_mk ⟨hi, onSome_mk (brow (by omega)) (onSome_mk (x := bv (bat rb i)) rfl (onBool_bv (ifB_f (by rw [all i hi]; rfl) ?_)))⟩
        rw [wr1i hi (by omega)]
        exact hJ (i + 1) hi (by omega)
  have fin : ∀ t, (t = 5 ∨ L = []) → ifB ((0 : Int) != (0 : Int)) (ifB true (R (bv ((0 : Int) == (0 : Int)))) (R (bv false))) (ifB ((0 : Int) != (0 : Int)) (ifB true (R (bv ((0 : Int) == (0 : Int)))) (R (bv false))) (ifB ((↑(nl g).length : Int) != (↑(bkl m).length : Int)) (R (bv false)) (need ((nl g).length ≤ (nl g).length) (need (1 * (nl g).length ≤ 140737488355328) (need ((nl g).length ≤ 9223372036854775807) (La 0 [(5 : Tmp), (6 : Tmp), (8 : Tmp), (10 : Tmp), (55 : Tmp), (56 : Tmp), (57 : Tmp)] (WY Tryz.prog cf8 2988 (Env.mk (Bs.mk 0 []) 0 none 137 8 0) (cdAt [1, 1, 1, 1, 1, 1, 1, 1, 0, 1, 0, 0] (bodyOf Tryz.f8))) (Qblk 0 (Qthen (WY Tryz.prog cf8 2991 (Env.mk (Bs.mk 0 []) 0 none 137 8 0) (cdAt [1, 1, 1, 1, 1, 1, 1, 1, 1] (bodyOf Tryz.f8)) (QendX Tryz.prog Tryz.f8 fun v h => R (frzW h v))) (QendX Tryz.prog Tryz.f8 fun v h => R (frzW h v)))) (sh8a g t (lkl L) (List.replicate (nl g).length [bv false]) (nl g).length 0))))))) := by
    intro t ht
    rw [hgl, bkl_length, ← hn]
    exact ifB_f rfl (ifB_f rfl (ifB_f (by simp) (need_mk ⟨Nat.le_refl _, need_mk ⟨by omega, need_mk ⟨by omega, main t ht⟩⟩⟩)))
  refine links29 hl hll hml hr (fun e' he' hne' => (he'.no hA).elim) (fun _ he => ⟨onTup_tup (onCons_cons (onLst_nil (onCons_cons (onIntK_iv (onNil_nil ?_))))), onTup_tup (onCons_cons (onLst_lst (onCons_cons (onIntK_iv (onNil_nil ?_)))))⟩) (fun _ => onTup_tup (onCons_cons (onLst_lst (onCons_cons (onIntK_iv (onNil_nil ?_))))))
  · have := fin 0 (.inr (hL.trans he))
    rw [hL, he] at this
    exact see (by kernel_rfl) this
  · have := fin 0 (.inr (hL.trans he))
    rw [hL, he] at this
    exact see (by kernel_rfl) this
  · have := fin 5 (.inl rfl)
    rw [hL] at this
    exact see (by kernel_rfl) this
end Go.Proofs.YtbionhgjgcpogaaGreatDoor
namespace Go.Proofs.YtbionhgjgcpogaaGreatDoor.Clean
open Go.Deep
set_option linter.unusedSimpArgs false
set_option linter.unusedVariables false
section
variable {H : Type} (enc : TypeId × Value → H) (P : Program) (w : World)
def FW (r : Nat) : Prop := r < w.heap.size
def Opens (t : TypeId) {α : Type} (f : α → List V) (ok : α → Prop) : Prop :=
  ∀ fuel cs x, DataW.trod enc P w 0 (fun _ => true) true fuel t cs = some x → ∃ a, riL (FW w) w (f a) cs ∧ ok a ∧ ∀ u ∈ cs, u.oneCell' = true
def OpensF (total : Nat) (off : Nat) (fs : List Field) {α : Type} (f : α → List V) (ok : α → Prop) : Prop :=
  ∀ n (cs : List Value), cs.length = total → (∀ fd ∈ fs, ∃ x, DataW.trod enc P w 0 (fun _ => true) true n fd.type ((cs.drop fd.offset).take (P.cellsOf fd.type)) = some x) →
    ∃ a, riL (FW w) w (f a) (cs.drop off) ∧ ok a ∧ ∀ u ∈ cs.drop off, u.oneCell' = true
end
section
variable {H : Type} {enc : TypeId × Value → H} {P : Program} {w : World}
theorem riL_append : ∀ {vs us : List V} {xs ys : List Value}, riL (FW w) w vs xs → riL (FW w) w us ys → riL (FW w) w (vs ++ us) (xs ++ ys)
  | [], us, xs, ys, h, k => by simp only [riL] at h; subst h; simpa using k
  | v :: vs, us, xs, ys, h, k => by
    simp only [riL] at h
    obtain ⟨x, zs, rfl, h2, h3⟩ := h
    simp only [List.cons_append, riL]
    exact ⟨x, zs ++ ys, rfl, h2, riL_append h3 k⟩
theorem riL_one {v : V} {x : Value} (h : ri (FW w) w v x) : riL (FW w) w [v] [x] := by simp only [riL]; exact ⟨x, [], rfl, h, rfl⟩
theorem riL_get : ∀ {vs : List V} {xs : List Value}, riL (FW w) w vs xs → ∀ (i : Nat) v, vs[i]? = some v → ∃ x, xs[i]? = some x ∧ ri (FW w) w v x
  | [], xs, h, i, v, hi => by simp at hi
  | u :: vs, xs, h, i, v, hi => by
    simp only [riL] at h
    obtain ⟨x, ys, rfl, h2, h3⟩ := h
    cases i with
    | zero => simp at hi; subst hi; exact ⟨x, rfl, h2⟩
    | succ i => simp at hi; simpa using riL_get h3 i v hi
theorem riL_length : ∀ {vs : List V} {xs : List Value}, riL (FW w) w vs xs → xs.length = vs.length
  | [], xs, h => by simp only [riL] at h; simp [h]
  | v :: vs, xs, h => by simp only [riL] at h; obtain ⟨x, ys, rfl, _, h3⟩ := h; simp [riL_length h3]
theorem opens_int {t : TypeId} {k : IntKind} (ht : P.underlying t = some (.int k)) : Opens enc P w t (fun n : Int => [.raw (.int k n)]) (fun n => (Lit.int k n).wf = true) := by
  intro fuel cs x h
  obtain ⟨n, rfl, _, hw⟩ := DataW.trod_int ht h
  exact ⟨n, riL_one (by simp [ri]), hw, by simp [Value.oneCell']⟩
theorem opens_slice {t e : TypeId} {s : Nat} {α : Type} {f : α → List V} {ok : α → Prop} (ht : P.underlying t = some (.slice e)) (hs : P.cellsOf e = s) (hpos : s ≠ 0) (ho : Opens enc P w e f ok) :
    Opens enc P w t (fun l : List α => [.lst s (l.map f)]) (fun l => l.length ≤ maxLen ∧ ∀ a ∈ l, ok a) := by
  intro fuel cs x h
  rcases open_slice ht h with ⟨rfl, _⟩ | ⟨a, len, cap, m, n, D, Pl, rfl, _, hl, hm, hmm, _, hx⟩
  · exact ⟨[], riL_one (by simp [ri]), by simp, by simp [Value.oneCell']⟩
  · simp only [if_true] at hmm
    subst hmm
    rw [hs] at hx
    have each : ∀ i, i < len → ∃ q : α, (∃ cs', w.cells? 0 (a.add (i * s)) s = some cs' ∧ riL (FW w) w (f q) cs' ∧ ∀ u ∈ cs', u.oneCell' = true) ∧ ok q := by
      intro i hi
      obtain ⟨cs', h1, h2⟩ := hx i (by omega)
      obtain ⟨q, h3, h4, h5⟩ := ho _ _ _ h2
      exact ⟨q, ⟨cs', h1, h3, h5⟩, h4⟩
    obtain ⟨q, hq⟩ : ∃ q : Nat → Option α, ∀ i, i < len → ∃ y, q i = some y ∧ (∃ cs', w.cells? 0 (a.add (i * s)) s = some cs' ∧ riL (FW w) w (f y) cs' ∧ ∀ u ∈ cs', u.oneCell' = true) ∧ ok y := by
      refine Classical.axiomOfChoice (r := fun i (o : Option α) => i < len → ∃ y, o = some y ∧ (∃ cs', w.cells? 0 (a.add (i * s)) s = some cs' ∧ riL (FW w) w (f y) cs' ∧ ∀ u ∈ cs', u.oneCell' = true) ∧ ok y) ?_
      intro i
      by_cases hi : i < len
      · obtain ⟨y, hy⟩ := each i hi
        exact ⟨some y, fun _ => ⟨y, rfl, hy⟩⟩
      · exact ⟨none, fun h => (hi h).elim⟩
    let l : List α := (List.range len).filterMap q
    have hl' : l.length = len ∧ ∀ i, i < len → l[i]? = q i := by
      have key : ∀ k, k ≤ len → ((List.range k).filterMap q).length = k ∧ ∀ i, i < k → ((List.range k).filterMap q)[i]? = q i := by
        intro k
        induction k with
        | zero => intro _; simp
        | succ k ih =>
          intro hk
          obtain ⟨h1, h2⟩ := ih (by omega)
          obtain ⟨y, hy, _⟩ := hq k (by omega)
          have : (List.range (k + 1)).filterMap q = (List.range k).filterMap q ++ [y] := by rw [List.range_succ, List.filterMap_append]; simp [hy]
          rw [this]
          refine ⟨by simp [h1], fun i hi => ?_⟩
          by_cases hik : i < k
          · rw [List.getElem?_append_left (by omega)]; exact h2 i hik
          · have : i = k := by omega
            subst this
            rw [List.getElem?_append_right (by omega), h1, hy]; simp
      exact key len (Nat.le_refl _)
    refine ⟨l, riL_one ?_, ⟨by omega, fun b hb => ?_⟩, by simp [Value.oneCell']⟩
    · simp only [ri]
      refine .inr ⟨a, m, by simp [hl'.1]; exact hl, by simp [hl'.1], ?_⟩
      by_cases h0 : len = 0
      · left
        have : l = [] := List.eq_nil_of_length_eq_zero (by omega)
        simp [this]
      · right
        have cell : ∀ (i : Nat) (cs' : List Value), i < len → w.cells? 0 (a.add (i * s)) s = some cs' → ∀ j, j < s → w.cell? (a.add (i * s + j)) = cs'[j]? ∧ cs'.length = s := by
          intro i cs' hi hc j hj
          obtain ⟨_, hlen, hcc⟩ := World.cells?_some hc
          have := hcc j hj
          rw [add_add] at this
          exact ⟨this, hlen⟩
        obtain ⟨y0, hy0, ⟨cs0, c1, _, _⟩, _⟩ := hq 0 (by omega)
        have hc0 := (cell 0 cs0 (by omega) c1 0 (by omega))
        have hsome : ∃ u, w.cell? a = some u := by
          have h1 := hc0.1
          rw [Nat.zero_mul, Nat.zero_add] at h1
          have : a.add 0 = a := by simp [Addr.add]
          rw [this] at h1
          rw [h1]
          exact ⟨cs0[0]'(by omega), List.getElem?_eq_getElem (by omega)⟩
        obtain ⟨u0, hu0⟩ := hsome
        have hspot : a.spot = none := by
          unfold World.cell? at hu0
          split at hu0
          · split at hu0
            · cases hu0
            · rename_i h; simpa using h
          · cases hu0
        obtain ⟨ab, ao, asp⟩ := a
        simp only at hspot
        subst hspot
        refine ⟨rfl, World.block_lt_of_cell? w _ hu0, ?_⟩
        rw [riRows_iff]
        intro i row hrow
        rw [List.getElem?_map, Option.map_eq_some_iff] at hrow
        obtain ⟨b, hb, rfl⟩ := hrow
        have hi : i < len := by have := (List.getElem?_eq_some_iff.1 hb).1; omega
        obtain ⟨y, hy, ⟨cs', g1, g2, g3⟩, _⟩ := hq i hi
        rw [hl'.2 i hi, hy] at hb
        simp at hb
        subst hb
        have hlen' := riL_length g2
        obtain ⟨_, hclen, _⟩ := World.cells?_some g1
        refine ⟨by omega, fun j v hj => ?_⟩
        obtain ⟨z, z1, z2⟩ := riL_get g2 j v hj
        have hjs : j < s := by have := (List.getElem?_eq_some_iff.1 z1).1; omega
        refine ⟨z, ?_, g3 z (List.mem_of_getElem? z1), z2⟩
        have := (cell i cs' hi g1 j hjs).1
        rw [add_lit, ← Nat.add_assoc] at this
        rw [this]; exact z1
    · obtain ⟨i, hi⟩ := List.mem_iff_getElem?.1 hb
      have hil : i < len := by have := (List.getElem?_eq_some_iff.1 hi).1; omega
      obtain ⟨y, hy, _, hok⟩ := hq i hil
      rw [hl'.2 i hil, hy] at hi
      simp at hi
      exact hi ▸ hok
theorem opensF_nil {total : Nat} : OpensF enc P w total total [] (fun _ : Unit => []) (fun _ => True) := by
  intro n cs hl _
  rw [List.drop_of_length_le (by omega)]
  exact ⟨(), by simp [riL], trivial, by simp⟩
theorem opensF_cons {total off k : Nat} {fd : Field} {fs : List Field} {α β : Type} {f : α → List V} {g : β → List V} {ok : α → Prop} {ok' : β → Prop} (ho : fd.offset = off) (hk : P.cellsOf fd.type = k)
    (h1 : Opens enc P w fd.type f ok) (h2 : OpensF enc P w total (off + k) fs g ok') : OpensF enc P w total off (fd :: fs) (fun x : α × β => f x.1 ++ g x.2) (fun x => ok x.1 ∧ ok' x.2) := by
  intro n cs hl hf
  obtain ⟨x, hx⟩ := hf fd (by simp)
  rw [ho, hk] at hx
  obtain ⟨a, a1, a2, a3⟩ := h1 _ _ _ hx
  obtain ⟨b, b1, b2, b3⟩ := h2 n cs hl (fun fd' h' => hf fd' (by simp [h']))
  have hsplit : cs.drop off = (cs.drop off).take k ++ cs.drop (off + k) := by rw [← List.drop_drop, List.take_append_drop]
  refine ⟨(a, b), ?_, ⟨a2, b2⟩, ?_⟩
  · rw [hsplit]; exact riL_append a1 b1
  · rw [hsplit]
    intro u hu
    rcases List.mem_append.1 hu with hu | hu
    · exact a3 u hu
    · exact b3 u hu
theorem opens_struct {t : TypeId} {fs : Array Field} {total : Nat} {α : Type} {f : α → List V} {ok : α → Prop} (ht : P.underlying t = some (.struct fs)) (hc : P.cellsOf t = total) (h : OpensF enc P w total 0 fs.toList f ok) : Opens enc P w t f ok := by
  intro fuel cs x hx
  obtain ⟨xs, n, _, _, hl, hxl, hf⟩ := DataW.trod_struct ht hx
  have := h n cs (by omega) (fun fd hfd => by
    obtain ⟨i, hi⟩ := List.mem_iff_getElem?.1 hfd
    have hi' : fs[i]? = some fd := by simpa using hi
    have := hf i fd hi'
    have hil : i < xs.length := by rw [hxl]; exact lt_of_some hi'
    rw [List.getElem?_eq_getElem hil] at this
    exact ⟨_, this⟩)
  simpa using this
theorem arg_slice {t e : TypeId} {v : Value} {d : DataW H} {p : List MemPlace} {r : Reach} {b0 : Nat} {α : Type} {f : α → V} {ok : α → Prop} (ht : P.underlying t = some (.slice e)) (hval : Value.okWide P w r b0 t v) (h : DataW.Trod enc P w 0 (fun _ => true) true t v d p)
    (ho : Opens enc P w t (fun a => [f a]) ok) : ∃ a, ri (FW w) w (f a) v ∧ ok a := by
  obtain ⟨a, len, cap, rfl⟩ := WideShapes.okWide_slice ht hval
  obtain ⟨fuel, hf⟩ := h
  obtain ⟨y, h1, h2, _⟩ := ho _ _ _ hf
  simp only [Value.cells, riL] at h1
  obtain ⟨x, xs, hx, h3, _⟩ := h1
  simp at hx
  exact ⟨y, by rw [hx.1]; exact h3, h2⟩
theorem arg_struct {t : TypeId} {fs : Array Field} {v : Value} {d : DataW H} {p : List MemPlace} {r : Reach} {b0 : Nat} {α : Type} {f : α → List V} {ok : α → Prop} (ht : P.underlying t = some (.struct fs)) (hval : Value.okWide P w r b0 t v) (h : DataW.Trod enc P w 0 (fun _ => true) true t v d p)
    (ho : Opens enc P w t f ok) : ∃ a, ri (FW w) w (.agg (f a)) v ∧ ok a := by
  obtain ⟨cs, rfl, _⟩ := WideShapes.okWide_struct ht hval
  obtain ⟨fuel, hf⟩ := h
  obtain ⟨y, h1, h2, _⟩ := ho _ _ _ hf
  exact ⟨y, by simp only [ri]; exact ⟨cs, rfl, h1⟩, h2⟩
end
end Go.Proofs.YtbionhgjgcpogaaGreatDoor.Clean
namespace Go.Proofs.YtbionhgjgcpogaaGreatDoor.Clean
set_option linter.unusedVariables false
set_option linter.unusedSimpArgs false
mutual
def litC {H : Type} (P : Program) : Nat → TypeId → DataW H → Option (List V)
  | 0, _, _ => none
  | f + 1, t, d => match P.underlying t with
    | some (.int k) => match d with
      | .lit (.int k' n) => some [.raw (.int k n)]
      | _ => none
    | some (.struct fs) => match d with
      | .agg xs => litF P f (P.cellsOf t) fs.toList xs 0
      | _ => none
    | some (.array n e) => match d with
      | .agg xs => if P.cellsOf t = n * P.cellsOf e then litA P f e xs else none
      | _ => none
    | _ => none
def litF {H : Type} (P : Program) : Nat → Nat → List Field → List (DataW H) → Nat → Option (List V)
  | 0, _, _, _, _ => none
  | _ + 1, n, [], [], o => if n = o then some [] else none
  | f + 1, n, fd :: fs, x :: xs, o => if fd.offset = o then (litC P f fd.type x).bind fun a => (litF P f n fs xs (o + P.cellsOf fd.type)).bind fun b => if a.length = P.cellsOf fd.type then some (a ++ b) else none else none
  | _, _, _, _, _ => none
def litA {H : Type} (P : Program) : Nat → TypeId → List (DataW H) → Option (List V)
  | 0, _, _ => none
  | _ + 1, _, [] => some []
  | f + 1, e, x :: xs => (litC P f e x).bind fun a => (litA P f e xs).bind fun b => if a.length = P.cellsOf e then some (a ++ b) else none
end
section
variable {H : Type} {enc : TypeId × Value → H} {P : Program} {w : World} {b0 : Nat} {sp : Nat → Bool} {held : Bool}
def CellsOK (w : World) (vs : List V) (cs : List Value) : Prop := cs.length = vs.length ∧ ∀ (i : Nat) v x, vs[i]? = some v → cs[i]? = some x → x.oneCell' = true ∧ ri (FW w) w v x
theorem CellsOK.append {vs us : List V} {cs ds : List Value} (h : CellsOK w vs cs) (k : CellsOK w us ds) : CellsOK w (vs ++ us) (cs ++ ds) := by
  refine ⟨by simp [h.1, k.1], fun i v x hv hx => ?_⟩
  by_cases hi : i < vs.length
  · rw [List.getElem?_append_left hi] at hv
    rw [List.getElem?_append_left (by rw [h.1]; exact hi)] at hx
    exact h.2 i v x hv hx
  · rw [List.getElem?_append_right (by omega)] at hv
    rw [List.getElem?_append_right (by rw [h.1]; omega), h.1] at hx
    exact k.2 _ v x hv hx
theorem take_split (cs : List Value) (o n : Nat) : cs.drop o = (cs.drop o).take n ++ cs.drop (o + n) := by rw [← List.drop_drop, List.take_append_drop]
theorem lit_ok (f : Nat) :
    (∀ (t : TypeId) (d : DataW H) (vs : List V), litC P f t d = some vs → ∀ fuel cs x, DataW.trod enc P w b0 sp held fuel t cs = some x → x.1 = d → CellsOK w vs cs) ∧
    (∀ (fs : List Field) (xs : List (DataW H)) (o : Nat) (vs : List V) (cs : List Value), litF P f cs.length fs xs o = some vs → ∀ m (ys : List (DataW H × List MemPlace)), ys.map (·.1) = xs → (∀ (i : Nat) fd, fs[i]? = some fd → DataW.trod enc P w b0 sp held m fd.type ((cs.drop fd.offset).take (P.cellsOf fd.type)) = ys[i]?) → CellsOK w vs (cs.drop o)) ∧
    (∀ (e : TypeId) (xs : List (DataW H)) (o : Nat) (vs : List V) (cs : List Value), litA P f e xs = some vs → cs.length = o + xs.length * P.cellsOf e → ∀ m (ys : List (DataW H × List MemPlace)), ys.map (·.1) = xs → (∀ (i : Nat), i < xs.length → DataW.trod enc P w b0 sp held m e ((cs.drop (o + i * P.cellsOf e)).take (P.cellsOf e)) = ys[i]?) → CellsOK w vs (cs.drop o)) := by
  induction f with
  | zero => exact ⟨fun t d vs h => by simp [litC] at h, fun fs xs o vs cs h => by simp [litF] at h, fun e xs o vs cs h => by simp [litA] at h⟩
  | succ f ih =>
    obtain ⟨ihC, ihF, ihA⟩ := ih
    refine ⟨fun t d vs h fuel cs x hx hd => ?_, fun fs xs o vs cs h m ys hys hf => ?_, fun e xs o vs cs h hl m ys hys hf => ?_⟩
    · simp only [litC] at h
      split at h
      · rename_i k hk
        split at h
        · rename_i k' n
          cases h
          obtain ⟨m, rfl, h2, _⟩ := DataW.trod_int hk hx
          have hxd : x.1 = .lit (.int k m) := by rw [h2]
          rw [hd] at hxd
          simp only [DataW.lit.injEq, Lit.int.injEq] at hxd
          obtain ⟨_, rfl⟩ := hxd
          refine ⟨rfl, fun i v x hv hx => ?_⟩
          cases i with
          | zero => simp at hv hx; subst hv; subst hx; exact ⟨rfl, by simp [ri]⟩
          | succ i => simp at hv
        · cases h
      · rename_i fs hs
        split at h
        · rename_i xs
          obtain ⟨ys, n, _, hy, hl, hyl, hf⟩ := DataW.trod_struct hs hx
          have hxs : ys.map (·.1) = xs := by
            have := hd
            rw [hy] at this
            simpa using this
          rw [← hl] at h
          have := ihF fs.toList xs 0 vs cs h n ys hxs (fun i fd hi => hf i fd (by simpa using hi))
          simpa using this
        · cases h
      · rename_i n e ha
        split at h
        · rename_i xs
          split at h
          · rename_i hn
            obtain ⟨ys, m, _, hy, hl, hyl, hf⟩ := DataW.trod_array ha hx
            have hxs : ys.map (·.1) = xs := by
              have := hd
              rw [hy] at this
              simpa using this
            have hxl : xs.length = n := by rw [← hxs]; simpa using hyl
            have := ihA e xs 0 vs cs h (by rw [hl, hn, hxl]; omega) m ys hxs (fun i hi => by rw [Nat.zero_add]; exact hf i (by omega))
            simpa using this
          · cases h
        · cases h
      · cases h
    · cases fs with
      | nil =>
        cases xs with
        | nil =>
          simp only [litF] at h
          split at h
          · rename_i hn
            cases h
            subst hn
            refine ⟨by simp, fun i v x hv hx => by simp at hv⟩
          · cases h
        | cons x xs => simp [litF] at h
      | cons fd fs =>
        cases xs with
        | nil => simp [litF] at h
        | cons x xs =>
          simp only [litF] at h
          split at h
          · rename_i ho
            cases ha : litC P f fd.type x with
            | none => rw [ha] at h; cases h
            | some a =>
              cases hb : litF P f cs.length fs xs (o + P.cellsOf fd.type) with
              | none => rw [ha, hb] at h; cases h
              | some b =>
                rw [ha, hb] at h
                simp only [Option.bind_some] at h
                split at h
                · rename_i hal
                  cases h
                  cases ys with
                  | nil => simp at hys
                  | cons y ys =>
                    simp only [List.map_cons, List.cons.injEq] at hys
                    have h0 := hf 0 fd rfl
                    rw [ho] at h0
                    rw [take_split cs o (P.cellsOf fd.type)]
                    exact (ihC _ _ _ ha _ _ _ h0 hys.1).append (ihF fs xs _ b cs hb m ys hys.2 (fun i fd' hi => hf (i + 1) fd' (by simpa using hi)))
                · cases h
          · cases h
    · cases xs with
      | nil =>
        simp only [litA, Option.some.injEq] at h
        subst h
        refine ⟨by simp at hl ⊢; omega, fun i v x hv hx => by simp at hv⟩
      | cons x xs =>
        simp only [litA] at h
        cases ha : litC P f e x with
        | none => rw [ha] at h; cases h
        | some a =>
          cases hb : litA P f e xs with
          | none => rw [ha, hb] at h; cases h
          | some b =>
            rw [ha, hb] at h
            simp only [Option.bind_some] at h
            split at h
            · rename_i hal
              cases h
              cases ys with
              | nil => simp at hys
              | cons y ys =>
                simp only [List.map_cons, List.cons.injEq] at hys
                have h0 := hf 0 (by simp)
                rw [Nat.zero_mul, Nat.add_zero] at h0
                rw [take_split cs o (P.cellsOf e)]
                refine (ihC _ _ _ ha _ _ _ h0 hys.1).append (ihA e xs _ b cs hb (by rw [hl, List.length_cons, Nat.add_mul]; omega) m ys hys.2 (fun i hi => ?_))
                have := hf (i + 1) (by simpa using hi)
                rw [Nat.add_mul, Nat.one_mul] at this
                rw [show o + P.cellsOf e + i * P.cellsOf e = o + (i * P.cellsOf e + P.cellsOf e) by omega]
                simpa using this
            · cases h
end
structure LaidOne (P : Program) (g : Nat) (n : String) (d : DataW Unit) (vs : List V) : Prop where
  name : P.globalNamed n = some g
  cells : (((P.globals[g]?).map (·.type)).bind fun t => litC P 64 t d) = some vs
theorem riCells_of {F : Nat → Prop} {w : World} {b : Nat} : ∀ (vs : List V) (o : Nat), (∀ i v, vs[i]? = some v → ∃ x, w.cell? ⟨b, o + i, none⟩ = some x ∧ x.oneCell' = true ∧ ri F w v x) → riCells F w b vs o
  | [], o, _ => by simp only [riCells]
  | v :: vs, o, h => by
    simp only [riCells]
    refine ⟨by simpa using h 0 v rfl, riCells_of vs (o + 1) fun i v hi => ?_⟩
    have := h (i + 1) v (by simpa using hi)
    rwa [show o + (i + 1) = o + 1 + i by omega] at this
theorem laid_adr {P : Program} {w : World} {laid : List (String × DataW Unit)} (hp : (laid.all fun x => x.2.handleName?.isNone) = true) (h : laidMetH P laid w) {g : Nat} {n : String} {d : DataW Unit} {vs : List V} (hm : (n, d) ∈ laid) (ho : LaidOne P g n d vs) (hne : vs ≠ []) :
    ri (FW w) w (.adr vs 0) (.pointer (some ⟨g, 0, none⟩)) := by
  rw [MakeChecks.laidMetH_plain _ _ _ hp] at h
  obtain ⟨ps, hl, _⟩ := h
  have key : ∀ (l : List (String × DataW Unit)) (ps : List MemPlace), DataW.LaidVars P w l ps → (n, d) ∈ l → ∃ t cs fuel p, (P.globals[g]?).map (·.type) = some t ∧ w.var? P n = some cs ∧ DataW.trod (fun _ => ()) P w 0 (fun _ => true) false fuel t cs.toList = some (d, p) := by
    intro l
    induction l with
    | nil => intro ps _ hm; cases hm
    | cons a r ih =>
      obtain ⟨n', d'⟩ := a
      intro ps hl hm
      obtain ⟨g', t, cs, fuel, p, q, h1, h2, h3, h4, h5, _⟩ := hl
      rcases List.mem_cons.1 hm with he | he
      · cases he
        obtain rfl := Option.some.inj (ho.name.symm.trans h1)
        exact ⟨t, cs, fuel, p, h2, h3, h4⟩
      · exact ih q h5 he
  obtain ⟨t, cs, fuel, p, h1, h2, h3⟩ := key laid ps hl hm
  have k2 := ho.cells
  rw [h1, Option.bind_some] at k2
  have hc := (lit_ok 64).1 _ _ _ k2 _ _ _ h3 rfl
  have hv := World.var?_cell ho.name h2
  simp only [ri]
  have cell : ∀ i v, vs[i]? = some v → ∃ x, w.cell? ⟨g, 0 + i, none⟩ = some x ∧ x.oneCell' = true ∧ ri (FW w) w v x := by
    intro i v hi
    have hlt : i < vs.length := (List.getElem?_eq_some_iff.1 hi).1
    have hlt' : i < cs.toList.length := by rw [hc.1]; exact hlt
    obtain ⟨q1, q2⟩ := hc.2 i v _ hi (List.getElem?_eq_getElem hlt')
    refine ⟨cs.toList[i], ?_, q1, q2⟩
    rw [Nat.zero_add, hv i]
    simp at hlt' ⊢
  refine ⟨g, 0, by simp, ?_, riCells_of vs 0 cell⟩
  obtain ⟨v, r, rfl⟩ := List.exists_cons_of_ne_nil hne
  obtain ⟨x, hx, _⟩ := cell 0 v rfl
  show g < w.heap.size
  simp only [World.cell?] at hx
  cases hh : w.heap[0 + g]? with
  | none => rw [Nat.zero_add] at hh; rw [hh] at hx; simp at hx
  | some o => rw [Nat.zero_add] at hh; exact lt_of_some hh
end Go.Proofs.YtbionhgjgcpogaaGreatDoor.Clean
