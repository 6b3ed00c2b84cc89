/- A part of the proof. -/
import Derived.Test.YtbionhgjgcpogaaGreatDoorProg
import Derived.Test.YtbionhgjgcpogaaGreatDoorXN11G10
import Derived.Test.YtbionhgjgcpogaaGreatDoorXN11G11
import Derived.Test.YtbionhgjgcpogaaGreatDoorXN11G12
import Derived.Test.YtbionhgjgcpogaaGreatDoorXN11G13
namespace Go.Proofs.YtbionhgjgcpogaaGreatDoor
open Go Go.Proofs.YtbionhgjgcpogaaGreatDoor.Clean
set_option linter.unusedVariables false
set_option maxRecDepth 100000
def kpE : FuncId → Nat → Option (List Tmp) := slotsOf [(94, 0, [0, 1, 4])]
noncomputable def cfE : Cfg := { cfgG Tryz.prog glX moD poP (rtP fN) (inN [54, 94, 62, 78]) kpE with clean := fun g => !inN [94] g }
noncomputable def rec26 (l : List Kd) (b : Bk) (q : Kd) (x : List Cl) (u u' : List Kn) : Lr := ⟨.ready, none, mkT [(0, V.lst 3 (kdl l)), (1, V.agg (bkr b)), (3, V.ptr (Id.p 0) 0 0), (4, V.ptr (Id.p 1) 0 0), (5, V.ptr (Id.p 2) 0 0), (6, V.ptr (Id.p 3) 0 0), (7, iv 0), (12, V.tup [V.agg [V.lst 3 (cll x), V.lst 5 (knl u)], iv 0]), (13, V.lst 3 (kdl l)), (14, V.agg (bkr b)), (15, V.tup [V.agg [V.lst 3 (cll x), V.lst 5 (knl u)], iv 0]), (16, V.agg [V.lst 3 (cll x), V.lst 5 (knl u)]), (17, iv 0), (18, iv 0), (19, bv ((0 : Int) != 0)), (22, V.agg [V.lst 3 (cll x), V.lst 5 (knl u)]), (23, V.agg [V.lst 3 (cll x), V.lst 5 (knl u')]), (24, V.lst 3 (kdl l)), (25, V.ptr (Id.p 0) 0 0), (26, iv b.1), (27, V.adr (kdr q) 0), (28, V.agg (kdr q)), (29, V.fn (Fn.func 94) [] [V.ptr (Id.p 4) 0 0])], 44, Array.mk [30, 31], rfA (cdAt [1, 1, 1, 1, 0, 1, 0] (bodyOf Tryz.f26)), rfB (cdAt [1, 1, 1, 1, 0, 1, 0] (bodyOf Tryz.f26)), 26⟩
noncomputable def sh26 (l : List Kd) (b : Bk) (q : Kd) (x : List Cl) (u u' : List Kn) (i : Nat) : St := ⟨mkT [(0, V.yl (Id.p 5)), (1, V.ptr (Id.p 4) 0 0), (4, iv (i : Int))], ⟨[(5, O.lp (rec26 l b q x u u')), (4, O.rows 3 false [kdr q]), (3, O.rows 2 false [[V.lst 3 (cll x), V.lst 5 (knl u')]]), (2, O.rows 1 false [[iv 0]]), (1, O.rows 6 false [bkr (0, (0, 0, 0), 0, 0)]), (0, O.rows 6 false [bkr b])], 6, []⟩⟩
end Go.Proofs.YtbionhgjgcpogaaGreatDoor
namespace Go.Proofs.YtbionhgjgcpogaaGreatDoor
open Go Go.Proofs.YtbionhgjgcpogaaGreatDoor.Clean
set_option linter.unusedVariables false
set_option linter.unusedSimpArgs false
set_option maxRecDepth 10000
theorem hcD : cfD.ok Tryz.prog := by
  have h : (cfgG Tryz.prog glX moD poP (rtP fN) (inN [78, 62, 96]) kpD).ok Tryz.prog := cfgG_ok (rtP_ok fN)
  exact ⟨h.1, h.2⟩
theorem take_eq {α : Type} {a b : List α} {i : Nat} {x : α} (h : a.take i = b.take i) (hx : a[i]? = some x) (hy : b[i]? = some x) : a.take (i + 1) = b.take (i + 1) := by rw [take_succ' hx, take_succ' hy, h]
theorem same23 {a b : List Cl} {R : V → Prop} (hl : a.length ≤ 1000000) (h : R (bv (dc (a = b)))) : K0G Tryz.prog glX 23 [.lst 3 (cll a), .lst 3 (cll b)] R := by
  refine K0_of_WY0 hmX hcD 3000 Tryz.func23 (see (p := ifB ((↑(cll a).length : Int) != (↑(cll b).length : Int)) (R (bv false)) (La 0 [(0 : Tmp), (1 : Tmp), (5 : Tmp)] (WY Tryz.prog cfD 2994 (Env.mk (Bs.mk 0 []) 0 none 26 23 0) (cdAt [1, 1, 0, 1, 0, 0] (bodyOf Tryz.f23))) (Qblk 0 (Qthen (WY Tryz.prog cfD 2997 (Env.mk (Bs.mk 0 []) 0 none 26 23 0) (cdAt [1, 1, 1] (bodyOf Tryz.f23)) (QendX Tryz.prog Tryz.f23 fun v h => R (frzW h v))) (QendX Tryz.prog Tryz.f23 fun v h => R (frzW h v)))) (St.mk (mkT [(0, V.lst 3 (cll a)), (1, V.lst 3 (cll b)), (5, iv (0 : Int))]) (Hp.mk [] 0 [])))) (by kernel_rfl) ?_)
  rw [cll_length, cll_length]
  refine ifB_mk (fun c => rf h (fun e => by rw [e] at c; simp at c)) (fun c => ?_)
  have hlen : a.length = b.length := by simp at c; omega
  refine La.of (σ := Nat) (fun i => sh23 a b i) (fun i => i ≤ a.length ∧ a.take i = b.take i) (fun i => a.length - i) 0 (by kernel_rfl) ⟨by omega, by simp⟩ ?_
  rintro i ⟨g1, g2⟩ J hJ
  refine see (p := ifB (decide ((↑i : Int) < (↑(cll a).length : Int))) (onSome (cll a)[i]? fun row => onCons (List.drop 0 row) fun u r => onIntK IntKind.i64 u fun n => onCons r fun u r => onIntK IntKind.i64 u fun n_1 => onCons r fun u r => onIntK IntKind.i64 u fun n_2 => onSome (cll b)[i]? fun row => onCons (List.drop 0 row) fun u r => onIntK IntKind.i64 u fun n_3 => onCons r fun u r => onIntK IntKind.i64 u fun n_4 => onCons r fun u r => onIntK IntKind.i64 u fun n_5 => ifB (!(fun b => n == n_3 && b) ((fun b => n_1 == n_4 && b) ((fun b => n_2 == n_5 && b) true))) (R (bv false)) (J (St.mk (mkT [(0, V.lst 3 (cll a)), (1, V.lst 3 (cll b)), (5, iv (IntKind.i64.wrap ((↑i : Int) + (1 : Int))))]) (Hp.mk [] 0 [])))) (R (bv true))) (by kernel_rfl) ?_
  rw [cll_length]
  refine ifB_mk (fun d => ?_) (fun d => ?_)
  · have hi : i < a.length := by have := of_decide_eq_true d; omega
    obtain ⟨x, hx⟩ := getI hi
    obtain ⟨y, hy⟩ := getI (l := b) (k := i) (by omega)
    refine cel hx (cel hy (ifB_mk (fun e => rf h (fun q => ?_)) (fun e => ?_)))
    · subst q; rw [hx] at hy; cases hy; simp at e
    · have exy : x = y := by
        simp only [Bool.not_eq_false', Bool.and_eq_true, beq_iff_eq, Bool.and_true] at e
        exact cl_ext e.1 e.2.1 e.2.2
      subst exy
      rw [wr1i hi (by omega)]
      exact hJ (i + 1) ⟨hi, take_eq g2 hx hy⟩ (by omega)
  · have hi : a.length ≤ i := by have := of_decide_eq_false d; omega
    rw [List.take_of_length_le hi, List.take_of_length_le (by omega)] at g2
    exact rt h g2
theorem kn_ext {a b : Kn} (h1 : a.1.1 = b.1.1) (h2 : a.1.2.1 = b.1.2.1) (h3 : a.1.2.2 = b.1.2.2) (h4 : a.2.1 = b.2.1) (h5 : a.2.2 = b.2.2) : a = b := Prod.ext (cl_ext h1 h2 h3) (Prod.ext h4 h5)
def SameK (a b : List Kn) : Prop := a.length = b.length ∧ ∀ x ∈ a, x ∈ b
theorem same88 {a b : List Kn} {R : V → Prop} (hl : a.length ≤ 1000000) (h : R (bv (dc (SameK a b)))) : K0G Tryz.prog glX 88 [.lst 5 (knl a), .lst 5 (knl b)] R := by
  refine K0_of_WY0 hmX hcD 3000 Tryz.func88 (see (p := ifB ((↑(knl a).length : Int) != (↑(knl b).length : Int)) (R (bv false)) (La 0 [(0 : Tmp), (1 : Tmp), (5 : Tmp)] (WY Tryz.prog cfD 2994 (Env.mk (Bs.mk 0 []) 0 none 39 88 0) (cdAt [1, 1, 0, 1, 0, 0] (bodyOf Tryz.f88))) (Qblk 0 (Qthen (WY Tryz.prog cfD 2997 (Env.mk (Bs.mk 0 []) 0 none 39 88 0) (cdAt [1, 1, 1] (bodyOf Tryz.f88)) (QendX Tryz.prog Tryz.f88 fun v h => R (frzW h v))) (QendX Tryz.prog Tryz.f88 fun v h => R (frzW h v)))) (St.mk (mkT [(0, V.lst 5 (knl a)), (1, V.lst 5 (knl b)), (5, iv (0 : Int))]) (Hp.mk [] 0 [])))) (by kernel_rfl) ?_)
  rw [knl_length, knl_length]
  refine ifB_mk (fun c => rf h (fun e => by rw [e.1] at c; simp at c)) (fun c => ?_)
  have hlen : a.length = b.length := by simp at c; omega
  refine La.of (σ := Nat) (fun i => sh88a a b i) (fun i => i ≤ a.length ∧ ∀ x ∈ a.take i, x ∈ b) (fun i => a.length - i) 0 (by kernel_rfl) ⟨by omega, by simp⟩ ?_
  rintro i ⟨g1, g2⟩ J hJ
  refine see (p := ifB (decide ((↑i : Int) < (↑(knl a).length : Int))) (La 0 [(0 : Tmp), (1 : Tmp), (5 : Tmp), (6 : Tmp), (7 : Tmp)] (WY Tryz.prog cfD 2986 (Env.mk (Bs.mk 0 []) 0 none 39 88 2) (cdAt [1, 1, 0, 1, 0, 0, 1, 0, 0, 1, 0, 1, 0, 0] (bodyOf Tryz.f88))) (Qblk 2 (Qthen (WY Tryz.prog cfD 2989 (Env.mk (Bs.mk 0 []) 0 none 39 88 1) (cdAt [1, 1, 0, 1, 0, 0, 1, 0, 0, 1, 1] (bodyOf Tryz.f88)) (Qblk 1 (Qthen (WY Tryz.prog cfD 2992 (Env.mk (Bs.mk 0 []) 0 none 39 88 0) (cdAt [1, 1, 0, 1, 0, 0, 1, 1] (bodyOf Tryz.f88)) (Qla 0 [(0 : Tmp), (1 : Tmp), (5 : Tmp)] J (Qblk 0 (Qthen (WY Tryz.prog cfD 2997 (Env.mk (Bs.mk 0 []) 0 none 39 88 0) (cdAt [1, 1, 1] (bodyOf Tryz.f88)) (QendX Tryz.prog Tryz.f88 fun v h => R (frzW h v))) (QendX Tryz.prog Tryz.f88 fun v h => R (frzW h v)))))) (Qla 0 [(0 : Tmp), (1 : Tmp), (5 : Tmp)] J (Qblk 0 (Qthen (WY Tryz.prog cfD 2997 (Env.mk (Bs.mk 0 []) 0 none 39 88 0) (cdAt [1, 1, 1] (bodyOf Tryz.f88)) (QendX Tryz.prog Tryz.f88 fun v h => R (frzW h v))) (QendX Tryz.prog Tryz.f88 fun v h => R (frzW h v)))))))) (Qblk 1 (Qthen (WY Tryz.prog cfD 2992 (Env.mk (Bs.mk 0 []) 0 none 39 88 0) (cdAt [1, 1, 0, 1, 0, 0, 1, 1] (bodyOf Tryz.f88)) (Qla 0 [(0 : Tmp), (1 : Tmp), (5 : Tmp)] J (Qblk 0 (Qthen (WY Tryz.prog cfD 2997 (Env.mk (Bs.mk 0 []) 0 none 39 88 0) (cdAt [1, 1, 1] (bodyOf Tryz.f88)) (QendX Tryz.prog Tryz.f88 fun v h => R (frzW h v))) (QendX Tryz.prog Tryz.f88 fun v h => R (frzW h v)))))) (Qla 0 [(0 : Tmp), (1 : Tmp), (5 : Tmp)] J (Qblk 0 (Qthen (WY Tryz.prog cfD 2997 (Env.mk (Bs.mk 0 []) 0 none 39 88 0) (cdAt [1, 1, 1] (bodyOf Tryz.f88)) (QendX Tryz.prog Tryz.f88 fun v h => R (frzW h v))) (QendX Tryz.prog Tryz.f88 fun v h => R (frzW h v))))))))) (St.mk (mkT [(0, V.lst 5 (knl a)), (1, V.lst 5 (knl b)), (5, iv (↑i : Int)), (6, bv false), (7, iv (0 : Int))]) (Hp.mk [] 0 []))) (R (bv true))) (by kernel_rfl) ?_
  rw [knl_length]
  refine ifB_mk (fun d => ?_) (fun d => ?_)
  · have hi : i < a.length := by have := of_decide_eq_true d; omega
    obtain ⟨x, hx⟩ := getI hi
    refine La.of (σ := Nat × Bool) (fun s => sh88b a b i s.1 s.2) (fun s => s.1 ≤ b.length ∧ (s.2 = true ↔ x ∈ b.take s.1)) (fun s => b.length - s.1) (0, false) (by kernel_rfl) ⟨by simp, by simp⟩ ?_
    rintro ⟨k, f⟩ ⟨f1, f2⟩ I hI
    simp only at f1 f2
    refine see (p := ifB (decide ((↑k : Int) < (↑(knl b).length : Int))) (ifB f (I (St.mk (mkT [(0, V.lst 5 (knl a)), (1, V.lst 5 (knl b)), (5, iv (↑i : Int)), (6, bv true), (7, iv (IntKind.i64.wrap ((↑k : Int) + (1 : Int))))]) (Hp.mk [] 0 []))) (onSome (knl a)[i]? fun row => onCons (List.drop 0 row) fun u r => onIntK IntKind.i64 u fun n => onCons r fun u r => onIntK IntKind.i64 u fun n_1 => onCons r fun u r => onIntK IntKind.i64 u fun n_2 => onCons r fun u r => onIntK IntKind.u8 u fun n_3 => onCons r fun u r => onIntK IntKind.u8 u fun n_4 => onSome (knl b)[k]? fun row => onCons (List.drop 0 row) fun u r => onIntK IntKind.i64 u fun n_5 => onCons r fun u r => onIntK IntKind.i64 u fun n_6 => onCons r fun u r => onIntK IntKind.i64 u fun n_7 => onCons r fun u r => onIntK IntKind.u8 u fun n_8 => onCons r fun u r => onIntK IntKind.u8 u fun n_9 => I (St.mk (mkT [(0, V.lst 5 (knl a)), (1, V.lst 5 (knl b)), (5, iv (↑i : Int)), (6, bv ((fun b => n == n_5 && b) ((fun b => n_1 == n_6 && b) ((fun b => n_2 == n_7 && b) true)) && (fun b => n_3 == n_8 && b) ((fun b => n_4 == n_9 && b) true))), (7, iv (IntKind.i64.wrap ((↑k : Int) + (1 : Int))))]) (Hp.mk [] 0 [])))) (ifB (!f) (R (bv false)) (J (St.mk (mkT [(0, V.lst 5 (knl a)), (1, V.lst 5 (knl b)), (5, iv (IntKind.i64.wrap ((↑i : Int) + (1 : Int))))]) (Hp.mk [] 0 []))))) (by kernel_rfl) ?_
    rw [knl_length]
    refine ifB_mk (fun e => ?_) (fun e => ?_)
    · have hk : k < b.length := by have := of_decide_eq_true e; omega
      obtain ⟨y, hy⟩ := getI hk
      rw [wr1i hk (by omega)]
      refine ifB_mk (fun g => hI (k + 1, true) ⟨hk, ?_⟩ (by simp only; omega)) (fun g => kel hx (kel hy (hI (k + 1, _) ⟨hk, ?_⟩ (by simp only; omega))))
      · show true = true ↔ x ∈ b.take (k + 1)
        rw [take_succ' hy]
        exact ⟨fun _ => List.mem_append.2 (.inl (f2.1 g)), fun _ => rfl⟩
      · have hn : ¬ x ∈ b.take k := fun q => by rw [f2.2 q] at g; cases g
        show ((x.1.1 == y.1.1 && (x.1.2.1 == y.1.2.1 && (x.1.2.2 == y.1.2.2 && true))) && (x.2.1 == y.2.1 && (x.2.2 == y.2.2 && true))) = true ↔ x ∈ b.take (k + 1)
        rw [take_succ' hy]
        constructor
        · intro q
          simp only [Bool.and_eq_true, beq_iff_eq, Bool.and_true] at q
          have : x = y := kn_ext q.1.1 q.1.2.1 q.1.2.2 q.2.1 q.2.2
          simp [this]
        · intro q
          rcases List.mem_append.1 q with q | q
          · exact (hn q).elim
          · rw [List.mem_singleton.1 q]; simp
    · have hk : b.length ≤ k := by have := of_decide_eq_false e; omega
      rw [List.take_of_length_le hk] at f2
      refine ifB_mk (fun g => rf h (fun q => ?_)) (fun g => ?_)
      · have := f2.2 (q.2 x (mem_at hx)); rw [this] at g; cases g
      · rw [wr1i hi (by omega)]
        exact hJ (i + 1) ⟨hi, all_take hx g2 (f2.1 (by simpa using g))⟩ (by omega)
  · have hi : a.length ≤ i := by have := of_decide_eq_false d; omega
    exact rt h ⟨hlen, all_all hi g2⟩
theorem K0_args {P : Program} {G : Nat → Option (List V)} {f : FuncId} {args args' : List V} {R : V → Prop} (h : K0G P G f args R) (hr : ∀ F w xs, riL F w args' xs → riL F w args xs) : K0G P G f args' R := fun F w xs g1 g2 g3 => h F w xs g1 g2 (hr F w xs g3)
theorem ri_k {F : Nat → Prop} {w : World} {s : Nat} {a : List Kn} {x : Value} (h : s = 5 ∨ a = []) (hx : ri F w (.lst s (knl a)) x) : ri F w (.lst 5 (knl a)) x := by
  rcases h with rfl | rfl
  · exact hx
  · simpa [ri, knl, riRows] using hx
theorem same88' {a b : List Kn} {s s' : Nat} {R : V → Prop} (hs : s = 5 ∨ a = []) (hs' : s' = 5 ∨ b = []) (hl : a.length ≤ 1000000) (h : R (bv (dc (SameK a b)))) : K0G Tryz.prog glX 88 [.lst s (knl a), .lst s' (knl b)] R :=
  K0_args (same88 hl h) (fun F w xs hx => by
    simp only [riL] at hx ⊢
    obtain ⟨x, r, e, h1, y, r', e', h2, h3⟩ := hx
    exact ⟨x, r, e, ri_k hs h1, y, r', e', ri_k hs' h2, h3⟩)
theorem knobbed60' {l : List Kd} {b : Bk} {q : Kd} {t : Nat} {k : Nat → List (List V) → Prop} (hb : PutB l b q t) (h : ∀ s, (s = 5 ∨ knb q t b.2.1 = []) → k s (knl (knb q t b.2.1))) : K0G Tryz.prog glX 60 [.lst 3 (kdl l), .agg (bkr b)] fun v => onLst v fun s es => k s es :=
  knobbed60 hb (onLst_lst (h 5 (.inl rfl))) (fun e => onLst_nil (by have := h 0 (.inr (by simp [knb, e])); simpa [knb, e, knl] using this))
def subC (a b : Cl) : Cl := (a.1 - b.1, a.2.1 - b.2.1, a.2.2 - b.2.2)
def shC (d : Cl) (l : List Cl) : List Cl := l.map fun c => addC c d
def shK (d : Cl) (l : List Kn) : List Kn := l.map fun k => (addC k.1 d, k.2)
theorem sub_bd {a b : Int} {c d : Cl} (h : Bd a c) (h' : Bd b d) : Bd (a + b) (subC c d) := by
  unfold Bd Nr at *
  simp only [subC]
  omega
theorem plc_length (q : Kd) (n : Nat) (d : Cl) : (plc q n d).length = q.1.length := by rw [plc, (sortC_perm _).length_eq]; simp
theorem knb_length (q : Kd) (n : Nat) (d : Cl) : (knb q n d).length = q.2.1.length := by simp [knb]
def hd (l : List Cl) : Cl := l.headD (0, 0, 0)
theorem hd_get {l : List Cl} (h : 1 ≤ l.length) : l[0]? = some (hd l) := by
  cases l with
  | nil => simp at h
  | cons x l => rfl
def cAt (q : Kd) (t n : Nat) (at_ : Cl) : Cl := subC (hd (plc q n at_)) (hd (plc q t (0, 0, 0)))
def LikeP (q : Kd) (t n : Nat) (at_ : Cl) : Prop := plc q t (cAt q t n at_) = plc q n at_ ∧ SameK (knb q t (cAt q t n at_)) (knb q n at_)
theorem hd_mem {l : List Cl} (h : 1 ≤ l.length) : hd l ∈ l := mem_at (hd_get h)
theorem Bd0 (b : Int) (h : 0 ≤ b) : Bd b (0, 0, 0) := ⟨⟨by show -b ≤ 0; omega, h⟩, ⟨by show -b ≤ 0; omega, h⟩, by show -b ≤ 0; omega, h⟩
theorem plc0_bd {q : Kd} {n : Nat} (hq : PutP q) : ∀ c ∈ plc q n (0, 0, 0), Bd 15 c := fun c hc => by
  have := (sortC_perm _).mem_iff.1 hc
  obtain ⟨x, hx, rfl⟩ := List.mem_map.1 this
  exact (add_bd (tn_bd ((hq.1 x hx).mono (c := -15) (d := 15) (by omega) (by omega))) (Bd0 0 (by omega))).mono (by omega)
theorem plc1_bd {q : Kd} {n : Nat} {d : Cl} (hq : PutP q) (hd : Bd 1000 d) : ∀ c ∈ plc q n d, Bd 1015 c := fun c hc => by
  have := (sortC_perm _).mem_iff.1 hc
  obtain ⟨x, hx, rfl⟩ := List.mem_map.1 this
  exact (add_bd (tn_bd ((hq.1 x hx).mono (c := -15) (d := 15) (by omega) (by omega))) hd).mono (by omega)
end Go.Proofs.YtbionhgjgcpogaaGreatDoor
namespace Go.Proofs.YtbionhgjgcpogaaGreatDoor
open Go Go.Proofs.YtbionhgjgcpogaaGreatDoor.Clean
set_option linter.unusedVariables false
set_option linter.unusedSimpArgs false
set_option maxRecDepth 10000
theorem addC_zero (a : Cl) : addC a (0, 0, 0) = a := cl_ext (by simp [addC]) (by simp [addC]) (by simp [addC])
theorem addC_bef {a b d : Cl} : Bef (addC a d) (addC b d) ↔ Bef a b := by unfold Bef; simp only [addC]; omega
theorem addC_inj {a b d : Cl} (h : addC a d = addC b d) : a = b := by
  have h1 : (addC a d).1 = (addC b d).1 := by rw [h]
  have h2 : (addC a d).2.1 = (addC b d).2.1 := by rw [h]
  have h3 : (addC a d).2.2 = (addC b d).2.2 := by rw [h]
  simp only [addC] at h1 h2 h3
  exact cl_ext (by omega) (by omega) (by omega)
theorem plc_sh (q : Kd) (t : Nat) (d : Cl) : plc q t d = shC d (plc q t (0, 0, 0)) := by
  refine (sortC_uniq (l := q.1.map fun c => addC (tn t c) d) ?_ ?_).symm
  · unfold shC plc
    refine ((sortC_perm _).map _).trans ?_
    rw [List.map_map]
    refine List.Perm.of_eq (List.map_congr_left fun c _ => ?_)
    simp only [Function.comp, addC_zero]
  · unfold shC
    rw [List.pairwise_map]
    exact (sortC_srt _).imp (fun h => by rw [addC_bef]; exact h)
theorem knb_sh (q : Kd) (t : Nat) (d : Cl) : knb q t d = shK d (knb q t (0, 0, 0)) := by
  unfold knb shK
  rw [List.map_map]
  refine List.map_congr_left fun k _ => ?_
  simp only [Function.comp, addC_zero]
theorem qz_inj {a b : Cl} (h : qz a = qz b) : a = b := by
  simp only [qz, Prod.mk.injEq] at h
  exact cl_ext h.2.1 (by omega) h.2.2
theorem qx_inj {a b : Cl} (h : qx a = qx b) : a = b := by
  simp only [qx, Prod.mk.injEq] at h
  exact cl_ext h.1 h.2.2 (by omega)
theorem itr_inj {f : Cl → Cl} (hf : ∀ a b, f a = f b → a = b) : ∀ (n : Nat) (a b : Cl), itr f n a = itr f n b → a = b
  | 0, a, b, h => h
  | n + 1, a, b, h => hf _ _ (itr_inj hf n _ _ h)
theorem tn_inj {n : Nat} {a b : Cl} (h : tn n a = tn n b) : a = b := by
  unfold tn at h
  split at h
  · exact itr_inj (fun _ _ => qz_inj) _ _ _ (itr_inj (fun _ _ => qx_inj) _ _ _ h)
  · exact itr_inj (fun _ _ => qz_inj) _ _ _ (qx_inj (itr_inj (fun _ _ => qz_inj) _ _ _ h))
theorem pt_inj {n : Nat} (hn : n < 24) {d e : Int} (hd : 0 ≤ d ∧ d ≤ 5) (he : 0 ≤ e ∧ e ≤ 5) (h : pt n d = pt n e) : d = e := by
  have key : ∀ n, n < 24 → ∀ d, d < 6 → ∀ e, e < 6 → (ptL.getD n []).getD d 0 = (ptL.getD n []).getD e 0 → d = e := by decide
  have := key n hn d.toNat (by omega) e.toNat (by omega) h
  omega
def Fac (l : List Kn) : Prop := ∀ a ∈ l, ∀ b ∈ l, a.1 = b.1 → a.2.1 = b.2.1 → a = b
theorem pw_mem {α : Type} {r : α → α → Prop} : ∀ {l : List α}, l.Pairwise r → ∀ a ∈ l, ∀ b ∈ l, a = b ∨ r a b ∨ r b a
  | [], _, a, ha, _, _ => by simp at ha
  | x :: l, h, a, ha, b, hb => by
    have h1 := List.pairwise_cons.1 h
    rcases List.mem_cons.1 ha with ea | ha'
    · rcases List.mem_cons.1 hb with eb | hb'
      · exact .inl (ea.trans eb.symm)
      · rw [ea]; exact .inr (.inl (h1.1 b hb'))
    · rcases List.mem_cons.1 hb with eb | hb'
      · rw [eb]; exact .inr (.inr (h1.1 a ha'))
      · exact pw_mem h1.2 a ha' b hb'
theorem Fac.of {l : List Kn} (h : l.Pairwise BefK) : Fac l := fun a ha b hb e1 e2 => by
  rcases pw_mem h a ha b hb with h | h | h
  · exact h
  · rcases h with h | ⟨_, h⟩
    · rw [e1] at h; exact absurd h (Bef.irr _)
    · omega
  · rcases h with h | ⟨_, h⟩
    · rw [e1] at h; exact absurd h (Bef.irr _)
    · omega
structure KnbP (q : Kd) : Prop where
  put : PutP q
  pw : q.2.1.Pairwise BefK
theorem knb_fac {q : Kd} {t : Nat} {d : Cl} (hq : KnbP q) (ht : t < 24) : Fac (knb q t d) := fun a ha b hb e1 e2 => by
  obtain ⟨x, hx, rfl⟩ := List.mem_map.1 ha
  obtain ⟨y, hy, rfl⟩ := List.mem_map.1 hb
  have := Fac.of hq.pw x hx y hy (tn_inj (addC_inj e1)) (pt_inj ht (hq.put.2.2.1 x hx).2 (hq.put.2.2.1 y hy).2 e2)
  rw [this]
theorem knb_nodup {q : Kd} {t : Nat} {d : Cl} (hq : KnbP q) (ht : t < 24) : (knb q t d).Nodup := by
  unfold knb
  rw [List.Nodup, List.pairwise_map]
  refine hq.pw.imp_of_mem (fun {a b} ha hb hab he => ?_)
  have e1 : addC (tn t a.1) d = addC (tn t b.1) d := congrArg Prod.fst he
  have e2 : pt t a.2.1 = pt t b.2.1 := congrArg (fun z : Kn => z.2.1) he
  have := Fac.of hq.pw a ha b hb (tn_inj (addC_inj e1)) (pt_inj ht (hq.put.2.2.1 a ha).2 (hq.put.2.2.1 b hb).2 e2)
  rw [this] at hab
  exact BefK.irr _ hab
theorem same_perm : ∀ {a b : List Kn}, a.Nodup → SameK a b → a.Perm b
  | [], b, _, h => by
    have : b = [] := List.length_eq_zero_iff.1 (by have := h.1; simpa using this.symm)
    rw [this]
  | x :: a, b, hn, h => by
    have hx : x ∈ b := h.2 x (by simp)
    have h1 := List.nodup_cons.1 hn
    have hp := List.perm_cons_erase hx
    refine ((same_perm (b := b.erase x) h1.2 ⟨?_, fun y hy => ?_⟩).cons x).trans hp.symm
    · have := hp.length_eq
      have := h.1
      simp at *
      omega
    · exact (List.mem_erase_of_ne (fun e => h1.1 (by rw [← e]; exact hy))).2 (h.2 y (by simp [hy]))
theorem perm_same {a b : List Kn} (h : a.Perm b) : SameK a b := ⟨h.length_eq, fun x hx => h.mem_iff.1 hx⟩
theorem shK_srt {d : Cl} {l : List Kn} (hf : Fac (shK d l)) : shK d (sortK l) = sortK (shK d l) := by
  refine sortK_uniq hf ((sortK_perm l).map _) ?_
  unfold shK
  rw [List.pairwise_map]
  refine (sortK_srt l).imp (fun {a b} h q => h ?_)
  rcases q with q | ⟨q1, q2⟩
  · exact .inl (addC_bef.1 q)
  · exact .inr ⟨addC_inj q1, q2⟩
theorem sort_perm {a b : List Kn} (hf : Fac b) : sortK a = sortK b ↔ a.Perm b :=
  ⟨fun h => (sortK_perm a).symm.trans (h ▸ sortK_perm b), fun h => sortK_uniq hf ((sortK_perm a).trans h) (sortK_srt a)⟩
theorem look_iff {q : Kd} {t n : Nat} {at_ : Cl} (hq : KnbP q) (ht : t < 24) (hn : n < 24) : (shC (cAt q t n at_) (plc q t (0, 0, 0)) = plc q n at_ ∧ shK (cAt q t n at_) (sortK (knb q t (0, 0, 0))) = sortK (knb q n at_)) ↔ LikeP q t n at_ := by
  rw [← plc_sh, shK_srt (by rw [← knb_sh]; exact knb_fac hq ht), ← knb_sh, sort_perm (knb_fac hq hn)]
  exact ⟨fun h => ⟨h.1, perm_same h.2⟩, fun h => ⟨h.1, same_perm (knb_nodup hq ht) h.2⟩⟩
theorem hd_sh {d : Cl} {l : List Cl} (h : 1 ≤ l.length) : hd (shC d l) = addC (hd l) d := by
  cases l with
  | nil => simp at h
  | cons x l => rfl
theorem like_self {q : Kd} {n : Nat} {at_ : Cl} (h : 1 ≤ q.1.length) : LikeP q n n at_ := by
  have e : cAt q n n at_ = at_ := by
    unfold cAt
    rw [plc_sh q n at_, hd_sh (by rw [plc_length]; exact h)]
    exact cl_ext (by simp only [subC, addC]; omega) (by simp only [subC, addC]; omega) (by simp only [subC, addC]; omega)
  unfold LikeP
  rw [e]
  exact ⟨rfl, rfl, fun x hx => hx⟩
theorem sort104 {l : List Kn} (hl : l.length < 1000000) (hf : Fac l) {post : Hp → Us → Hp} (hpost : ∀ us, post ⟨[(0, O.rows 5 true (knl l))], 1, []⟩ us = ⟨[(0, O.rows 5 true (us.getD 0 []))], 1, []⟩) {Q : V → Us → Prop} (h : Q (.tup []) [knl (sortK l)]) : KM Tryz.prog glX 104 [.sl (.p 0) 0 l.length, .fn (.func 91) [] []] ⟨[(0, O.rows 5 true (knl l))], 1, []⟩ post Q := by
  by_cases h0 : l = []
  · subst h0
    refine KM_of_WYKp hmX hcS 3000 Tryz.func104 (fun R hR => ?_)
    refine see (p := R (V.tup []) (Hp.mk [(0, O.rows 5 true [])] 1 [])) (by kernel_rfl) ?_
    have := hR (.tup []) [knl (sortK [])] h
    rw [hpost, show knl (sortK []) = [] from by simp [sortK, knl]] at this
    exact this
  · unfold KM
    have key := K_sort (P := Tryz.prog) (G := glX) (ρ := LSk_ren) LSk (k := 5) Tryz.isAgg57 Tryz.sizeOf57 (enc := encK) (fun _ => rfl) (fun x v hv => by simp [encK] at hv; rcases hv with rfl | rfl | rfl | rfl | rfl <;> rfl) (cf := cmpK) swoK (g := 91) (caps := []) (h := ⟨[(0, O.rows 5 true (knl l))], 1, []⟩) (b := 0) (p := true) (l := l) h0 (by omega) rfl
      (enters_of Tryz.func91 (by kernel_rfl) rfl) (fun l' _ x y => K_of_K0c rfl (cmp91 (a := x) (b := y) rfl)) rfl
    intro ν F w xs g1 g2 g3
    refine (key ν F w xs g1 g2 g3).mono fun e w' ⟨x, v, ν', F', h', z1, ⟨z2, l', z7, z8, z9⟩, z3, z4, z5, z6⟩ => ?_
    have : l' = sortK l := sortK_uniq hf z7 (pw_of_get fun i j a b hij ha hb hbef => z8 i j a b hij ha hb (cmpK_lt.2 hbef))
    subst this
    refine ⟨x, v, ν', F', h', z1, ⟨[knl (sortK l)], ?_, by rw [z2]; exact h⟩, z3, z4, z5, fun b y hb ht => by cases ht⟩
    rw [z9, hpost]
    rfl
theorem sortK_length (l : List Kn) : (sortK l).length = l.length := (sortK_perm l).length_eq
theorem clone103 {u : List Kn} {R : V → Prop} (hu : u.length ≤ 1000) (h : R (.lst 5 (knl u))) (h0 : u = [] → R nilS) : KB Tryz.prog glX 103 [.lst 5 (knl u)] ⟨[], 0, []⟩ R := by
  refine KB_of_WYB hmX hcD 3000 Tryz.func103 rfl (see (p := nilN (knl u).length fun b => ifB b (R nilS) (need ((0 + (knl u).length) * 32 ≤ 140737488355328) (R (V.lst 5 (sub ([] ++ knl u) 0 (0 + (knl u).length)))))) (by kernel_rfl) ?_)
  rw [knl_length]
  have e : sub ([] ++ knl u) 0 (0 + u.length) = knl u := by rw [List.nil_append, sub, List.drop_zero, List.take_of_length_le (by rw [knl_length]; omega)]
  refine nilN_mk (fun e0 => ifB_t rfl (h0 (List.length_eq_zero_iff.1 e0))) (ifB_f rfl (need_mk ⟨by omega, ?_⟩))
  rw [e]
  exact h
theorem sorted61 {x : List Cl} {u : List Kn} {R : V → Prop} (hu : u.length ≤ 1000) (hf : Fac u) (h : R (.agg [.lst 3 (cll x), .lst 5 (knl (sortK u))])) : K0G Tryz.prog glX 61 [.agg [.lst 3 (cll x), .lst 5 (knl u)]] R := by
  refine K0_by hmX hcD 3000 Tryz.func61 (p := KB Tryz.prog glX 103 [V.lst 5 (knl u)] (Hp.mk [] 0 []) fun v => onLst v fun s es => guardB (s.beq 5 || s.beq 0) (KM Tryz.prog glX 104 [V.sl (Id.p 0) 0 es.length, V.fn (Fn.func 91) [] []] (Hp.mk [(0, O.rows 5 true es)] 1 []) (poP 104 [V.sl (Id.p 2) 0 es.length, V.fn (Fn.func 91) [] []]) fun v us => onTup v fun vs => onNil vs (R (V.agg [V.lst 3 (cll x), V.lst 5 (sub (List.getD us 0 []) 0 es.length)])))) (by kernel_rfl) ?_
  have e : sub (knl (sortK u)) 0 u.length = knl (sortK u) := by rw [sub, List.drop_zero, List.take_of_length_le (by rw [knl_length, sortK_length]; omega)]
  refine clone103 hu (onLst_lst (guardB_mk rfl ?_)) (fun e0 => onLst_nil (guardB_mk rfl ?_))
  · rw [knl_length]
    refine sort104 (l := u) (by omega) hf (fun us => rfl) (onTup_tup (onNil_nil ?_))
    show R (V.agg [V.lst 3 (cll x), V.lst 5 (sub (knl (sortK u)) 0 u.length)])
    rw [e]
    exact h
  · subst e0
    refine sort104 (l := []) (by simp) hf (fun us => rfl) (onTup_tup (onNil_nil ?_))
    show R (V.agg [V.lst 3 (cll x), V.lst 5 (sub (knl (sortK [])) 0 0)])
    exact (e ▸ h)
theorem map_take_eq {α β : Type} {f : α → β} {a : List α} {b : List β} {i : Nat} {x : α} (h : (a.take i).map f = b.take i) (hx : a[i]? = some x) (hy : b[i]? = some (f x)) : (a.take (i + 1)).map f = b.take (i + 1) := by rw [take_succ' hx, take_succ' hy, List.map_append, h]; rfl
theorem map_ne {α β : Type} {f : α → β} {a : List α} {b : List β} {i : Nat} {x : α} {y : β} (hx : a[i]? = some x) (hy : b[i]? = some y) (hne : f x ≠ y) : a.map f ≠ b := fun e => by
  rw [← e] at hy
  simp [hx] at hy
  exact hne hy
set_option maxHeartbeats 1000000 in
theorem stepTo55 {x y : List Cl} {u v : List Kn} {R : V → Prop} (hx : x.length = y.length) (hx1 : 1 ≤ x.length) (hxl : x.length ≤ 1000) (hu : u.length = v.length) (hul : u.length ≤ 1000) (bx : ∀ c ∈ x, Bd 3000 c) (b_y : ∀ c ∈ y, Bd 3000 c) (bu : ∀ k ∈ u, Bd 3000 k.1)
    (h1 : shC (subC (hd y) (hd x)) x = y → shK (subC (hd y) (hd x)) u = v → R (.tup [.agg (clr (subC (hd y) (hd x))), bv true])) (h2 : ¬ (shC (subC (hd y) (hd x)) x = y ∧ shK (subC (hd y) (hd x)) u = v) → R (.tup [.agg (clr (0, 0, 0)), bv false])) : K0G Tryz.prog glX 55 [.agg [.lst 3 (cll x), .lst 5 (knl u)], .agg [.lst 3 (cll y), .lst 5 (knl v)]] R := by
  refine K0_by hmX hcD 3000 Tryz.func55 (p := onSome (cll y)[0]? fun row => onCons (List.drop 0 row) fun u_1 r => onIntK IntKind.i64 u_1 fun n => onCons r fun u_2 r => onIntK IntKind.i64 u_2 fun n_1 => onCons r fun u_3 r => onIntK IntKind.i64 u_3 fun n_2 => onSome (cll x)[0]? fun row => onCons (List.drop 0 row) fun u_4 r => onIntK IntKind.i64 u_4 fun n_3 => onCons r fun u_5 r => onIntK IntKind.i64 u_5 fun n_4 => onCons r fun u_6 r => onIntK IntKind.i64 u_6 fun n_5 => La 0 [(2 : Tmp), (3 : Tmp), (4 : Tmp), (6 : Tmp), (21 : Tmp), (22 : Tmp), (23 : Tmp)] (WY Tryz.prog cfD 2994 (Env.mk (Bs.mk 0 []) 0 none 62 55 0) (cdAt [1, 1, 0, 1, 0, 0] (bodyOf Tryz.f55))) (Qblk 0 (Qthen (WY Tryz.prog cfD 2997 (Env.mk (Bs.mk 0 []) 0 none 62 55 0) (cdAt [1, 1, 1] (bodyOf Tryz.f55)) (QendX Tryz.prog Tryz.f55 fun v h => R (frzW h v))) (QendX Tryz.prog Tryz.f55 fun v h => R (frzW h v)))) (St.mk (mkT [(2, V.ptr (Id.p 0) 0 0), (3, V.ptr (Id.p 1) 0 0), (4, V.ptr (Id.p 2) 0 0), (6, V.ptr (Id.p 3) 0 0), (21, V.lst 3 (cll x)), (22, iv (↑(cll x).length : Int)), (23, iv (0 : Int))]) (Hp.mk [(0, O.rows 2 false [[V.lst 3 (cll x), V.lst 5 (knl u)]]), (1, O.rows 2 false [[V.lst 3 (cll y), V.lst 5 (knl v)]]), (2, O.rows 3 false [[iv (0 : Int), iv (0 : Int), iv (0 : Int)]]), (3, O.rows 3 false [[iv (IntKind.i64.wrap (n - n_3)), iv (IntKind.i64.wrap (n_1 - n_4)), iv (IntKind.i64.wrap (n_2 - n_5))]])] 4 []))) (by kernel_rfl) ?_
  have e0 := bx _ (hd_mem hx1)
  have e1 := b_y _ (hd_mem (by omega))
  have db := (sub_bd e1 e0)
  unfold Bd Nr at e0 e1
  refine cel (hd_get (l := y) (by omega)) (cel (hd_get (l := x) hx1) ?_)
  rw [wr (n := (hd y).1 - _) (by omega) (by omega), wr (n := (hd y).2.1 - _) (by omega) (by omega), wr (n := (hd y).2.2 - _) (by omega) (by omega)]
  obtain ⟨d, hd⟩ : ∃ d, d = subC (hd y) (hd x) := ⟨_, rfl⟩
  rw [← hd] at h1 h2 db
  refine La.of (σ := Nat) (fun i => sh55a x y u v d i) (fun i => i ≤ x.length ∧ (x.take i).map (fun c => addC c d) = y.take i) (fun i => x.length - i) 0 (by rw [hd]; kernel_rfl) ⟨by omega, by simp⟩ ?_
  rintro i ⟨g1, g2⟩ J hJ
  refine see (p := ifB (decide ((↑i : Int) < (↑(cll x).length : Int))) (onSome (cll x)[i]? fun row => onCons (List.drop 0 row) fun u_1 r => onIntK IntKind.i64 u_1 fun n => onCons r fun u_2 r => onIntK IntKind.i64 u_2 fun n_1 => onCons r fun u_3 r => onIntK IntKind.i64 u_3 fun n_2 => onSome (cll y)[i]? fun row => onCons (List.drop 0 row) fun u_4 r => onIntK IntKind.i64 u_4 fun n_3 => onCons r fun u_5 r => onIntK IntKind.i64 u_5 fun n_4 => onCons r fun u_6 r => onIntK IntKind.i64 u_6 fun n_5 => K0G Tryz.prog glX 97 [V.agg [iv n, iv n_1, iv n_2], V.agg [iv d.1, iv d.2.1, iv d.2.2]] fun v_1 => onAgg v_1 fun cs => onCons cs fun u_7 r => onIntK IntKind.i64 u_7 fun n => onCons r fun u_8 r => onIntK IntKind.i64 u_8 fun n_6 => onCons r fun u_9 r => onIntK IntKind.i64 u_9 fun n_7 => onNil r (ifB (!(fun b => n == n_3 && b) ((fun b => n_6 == n_4 && b) ((fun b => n_7 == n_5 && b) true))) (R (V.tup [V.agg [iv (0 : Int), iv (0 : Int), iv (0 : Int)], bv false])) (J (St.mk (mkT [(2, V.ptr (Id.p 0) 0 0), (3, V.ptr (Id.p 1) 0 0), (4, V.ptr (Id.p 2) 0 0), (6, V.ptr (Id.p 3) 0 0), (21, V.lst 3 (cll x)), (22, iv (↑(cll x).length : Int)), (23, iv (IntKind.i64.wrap ((↑i : Int) + (1 : Int))))]) (Hp.mk [(0, O.rows 2 false [[V.lst 3 (cll x), V.lst 5 (knl u)]]), (1, O.rows 2 false [[V.lst 3 (cll y), V.lst 5 (knl v)]]), (2, O.rows 3 false [[iv (0 : Int), iv (0 : Int), iv (0 : Int)]]), (3, O.rows 3 false [[iv d.1, iv d.2.1, iv d.2.2]])] 4 []))))) (La 0 [(3 : Tmp), (4 : Tmp), (6 : Tmp), (40 : Tmp), (41 : Tmp), (42 : Tmp)] (WY Tryz.prog cfD 2993 (Env.mk (Bs.mk 0 []) 0 none 62 55 2) (cdAt [1, 1, 1, 0, 1, 0, 0] (bodyOf Tryz.f55))) (Qblk 2 (Qthen (WY Tryz.prog cfD 2996 (Env.mk (Bs.mk 0 []) 0 none 62 55 0) (cdAt [1, 1, 1, 1] (bodyOf Tryz.f55)) (QendX Tryz.prog Tryz.f55 fun v h => R (frzW h v))) (QendX Tryz.prog Tryz.f55 fun v h => R (frzW h v)))) (St.mk (mkT [(3, V.ptr (Id.p 0) 0 0), (4, V.ptr (Id.p 1) 0 0), (6, V.ptr (Id.p 2) 0 0), (40, V.lst 5 (knl u)), (41, iv (↑(knl u).length : Int)), (42, iv (0 : Int))]) (Hp.mk [(0, O.rows 2 false [[V.lst 3 (cll y), V.lst 5 (knl v)]]), (1, O.rows 3 false [[iv (0 : Int), iv (0 : Int), iv (0 : Int)]]), (2, O.rows 3 false [[iv d.1, iv d.2.1, iv d.2.2]])] 3 [])))) (by kernel_rfl) ?_
  refine ifB_mk (fun c => ?_) (fun c => ?_)
  · have hi : i < x.length := by rw [cll_length] at c; have := of_decide_eq_true c; omega
    obtain ⟨a, ha⟩ := getI hi
    obtain ⟨b, hb⟩ := getI (l := y) (k := i) (by omega)
    refine cel ha (cel hb (add97 (a := a) (b := d) ((bx a (mem_at ha)).mono (by omega)) (db.mono (by omega)) (onC (ifB_mk (fun e => h2 (fun q => ?_)) (fun e => ?_)))))
    · have hne : addC a d ≠ b := fun e' => by rw [e'] at e; simp at e
      exact map_ne ha hb hne q.1
    · have exy : addC a d = b := by
        simp only [Bool.not_eq_false', Bool.and_eq_true, beq_iff_eq, Bool.and_true] at e
        exact cl_ext e.1 e.2.1 e.2.2
      rw [wr1i hi (by omega)]
      exact hJ (i + 1) ⟨hi, map_take_eq g2 ha (by rw [hb, exy])⟩ (by omega)
  · have hi : x.length ≤ i := by rw [cll_length] at c; have := of_decide_eq_false c; omega
    rw [List.take_of_length_le hi, List.take_of_length_le (by omega)] at g2
    clear hJ g1
    refine La.of (σ := Nat) (fun i => sh55b y u v d i) (fun i => i ≤ u.length ∧ (u.take i).map (fun k : Kn => ((addC k.1 d, k.2) : Kn)) = v.take i) (fun i => u.length - i) 0 (by kernel_rfl) ⟨by omega, by simp⟩ ?_
    clear hi
    rintro i ⟨f1, f2⟩ I hI
    refine see (p := ifB (decide ((↑i : Int) < (↑(knl u).length : Int))) (onSome (knl u)[i]? fun row => onCons (List.drop 0 row) fun u_1 r => onIntK IntKind.i64 u_1 fun n => onCons r fun u_2 r => onIntK IntKind.i64 u_2 fun n_1 => onCons r fun u_3 r => onIntK IntKind.i64 u_3 fun n_2 => onCons r fun u_4 r => onIntK IntKind.u8 u_4 fun n_3 => onCons r fun u_5 r => onIntK IntKind.u8 u_5 fun n_4 => K0G Tryz.prog glX 97 [V.agg [iv n, iv n_1, iv n_2], V.agg [iv d.1, iv d.2.1, iv d.2.2]] fun v_1 => onAgg v_1 fun cs => onCons cs fun u_6 r => onIntK IntKind.i64 u_6 fun n => onCons r fun u_7 r => onIntK IntKind.i64 u_7 fun n_5 => onCons r fun u_8 r => onIntK IntKind.i64 u_8 fun n_6 => onNil r (onSome (knl v)[i]? fun row => onCons (List.drop 0 row) fun u_9 r => onIntK IntKind.i64 u_9 fun n_7 => onCons r fun u_10 r => onIntK IntKind.i64 u_10 fun n_8 => onCons r fun u_11 r => onIntK IntKind.i64 u_11 fun n_9 => onCons r fun u_12 r => onIntK IntKind.u8 u_12 fun n_10 => onCons r fun u_13 r => onIntK IntKind.u8 u_13 fun n_11 => ifB (!(fun b => (fun b => n == n_7 && b) ((fun b => n_5 == n_8 && b) ((fun b => n_6 == n_9 && b) true)) && b) ((fun b => n_3 == n_10 && b) ((fun b => n_4 == n_11 && b) true))) (R (V.tup [V.agg [iv (0 : Int), iv (0 : Int), iv (0 : Int)], bv false])) (I (St.mk (mkT [(3, V.ptr (Id.p 0) 0 0), (4, V.ptr (Id.p 1) 0 0), (6, V.ptr (Id.p 2) 0 0), (40, V.lst 5 (knl u)), (41, iv (↑(knl u).length : Int)), (42, iv (IntKind.i64.wrap ((↑i : Int) + (1 : Int))))]) (Hp.mk [(0, O.rows 2 false [[V.lst 3 (cll y), V.lst 5 (knl v)]]), (1, O.rows 3 false [[iv (0 : Int), iv (0 : Int), iv (0 : Int)]]), (2, O.rows 3 false [[iv d.1, iv d.2.1, iv d.2.2]])] 3 []))))) (R (V.tup [V.agg [iv d.1, iv d.2.1, iv d.2.2], bv true]))) (by kernel_rfl) ?_
    refine ifB_mk (fun c => ?_) (fun c => ?_)
    · have hi : i < u.length := by rw [knl_length] at c; have := of_decide_eq_true c; omega
      obtain ⟨a, ha⟩ := getI hi
      obtain ⟨b, hb⟩ := getI (l := v) (k := i) (by omega)
      refine kel ha (add97 (a := a.1) (b := d) ((bu a (mem_at ha)).mono (by omega)) (db.mono (by omega)) (onC (kel hb (ifB_mk (fun e => h2 (fun q => ?_)) (fun e => ?_)))))
      · have hne : ((addC a.1 d, a.2) : Kn) ≠ b := fun e' => by rw [← e'] at e; simp at e
        exact map_ne (f := fun k : Kn => ((addC k.1 d, k.2) : Kn)) ha hb hne q.2
      · have exy : ((addC a.1 d, a.2) : Kn) = b := by
          simp only [Bool.not_eq_false', Bool.and_eq_true, beq_iff_eq, Bool.and_true] at e
          exact kn_ext e.1.1 e.1.2.1 e.1.2.2 e.2.1 e.2.2
        rw [wr1i hi (by omega)]
        exact hI (i + 1) ⟨hi, map_take_eq f2 ha (by rw [hb, ← exy])⟩ (by omega)
    · have hi : u.length ≤ i := by rw [knl_length] at c; have := of_decide_eq_false c; omega
      rw [List.take_of_length_le hi, List.take_of_length_le (by omega)] at f2
      exact h1 g2 f2
end Go.Proofs.YtbionhgjgcpogaaGreatDoor
namespace Go.Proofs.YtbionhgjgcpogaaGreatDoor
open Go Go.Proofs.YtbionhgjgcpogaaGreatDoor.Clean
set_option linter.unusedVariables false
set_option linter.unusedSimpArgs false
set_option maxRecDepth 10000
end Go.Proofs.YtbionhgjgcpogaaGreatDoor
namespace Go.Proofs.YtbionhgjgcpogaaGreatDoor
open Go Go.Proofs.YtbionhgjgcpogaaGreatDoor.Clean
set_option linter.unusedVariables false
set_option maxRecDepth 100000
end Go.Proofs.YtbionhgjgcpogaaGreatDoor
namespace Go.Proofs.YtbionhgjgcpogaaGreatDoor
open Go Go.Proofs.YtbionhgjgcpogaaGreatDoor.Clean
set_option linter.unusedVariables false
set_option maxRecDepth 100000
end Go.Proofs.YtbionhgjgcpogaaGreatDoor
namespace Go.Proofs.YtbionhgjgcpogaaGreatDoor
open Go Go.Proofs.YtbionhgjgcpogaaGreatDoor.Clean
set_option linter.unusedVariables false
set_option linter.unusedSimpArgs false
set_option maxRecDepth 10000
theorem hcE : cfE.ok Tryz.prog := by
  have h : (cfgG Tryz.prog glX moD poP (rtP fN) (inN [54, 94, 62, 78]) kpE).ok Tryz.prog := cfgG_ok (rtP_ok fN)
  exact ⟨h.1, h.2⟩
theorem KindP.put {q : Kd} (h : KindP q) (hr : KdR q) : KnbP q := by
  obtain ⟨⟨⟨c1, c2⟩, c3, c4⟩, ⟨k1, k2, k3⟩, w⟩ := h
  exact ⟨⟨c3, by omega, fun k hk => ⟨c3 _ (k2 k hk).2.2.1, (hr.1 k hk).1.1, (k2 k hk).1⟩, by omega⟩, k3⟩
theorem putb {l : List Kd} {b : Bk} (hK : KindsP l) (hl : ∀ q ∈ l, KdR q) (hB : BrickP l.length b) (hr : BkR b) : ∃ q n, PutB l b q n ∧ KnbP q ∧ Bd 1000 b.2.1 ∧ KindP q := by
  obtain ⟨⟨b1, b2⟩, b3, b4, b5⟩ := hB
  obtain ⟨q, hq⟩ := getI (l := l) (k := b.1.toNat) (by omega)
  have hm := mem_at hq
  have hP := (hK.2 q hm).put (hl q hm)
  exact ⟨q, b.2.2.1.toNat, ⟨hq, b1, hP.put, (hK.2 q hm).1.1.1, by have := hr.1.1; omega, by have := hr.1.1; omega, b3.mono (by omega)⟩, hP, b3, hK.2 q hm⟩
theorem body57 {l : List Kd} {b : Bk} {R : V → Prop} (hl : ∀ q ∈ l, KdR q) (hll : (l.length : Int) ≤ 1000000) (hr : BkR b) (h1 : ∀ e, askE l b e → e ≠ 0 → R (.tup [.agg [nilS, nilS], iv e])) (h2 : askE l b 0 → ∀ q n, PutB l b q n → KnbP q → Bd 1000 b.2.1 → R (.tup [.agg [.lst 3 (cll (plc q n b.2.1)), .lst 5 (knl (knb q n b.2.1))], iv 0])) : K0G Tryz.prog glX 57 [.lst 3 (kdl l), .agg (bkr b)] R := by
  refine K0_by hmX hcQ 3000 Tryz.func57 (p := K0G Tryz.prog glX 16 [V.lst 3 (kdl l)] fun v => onIntK IntKind.i64 v fun n => ifB (n != (0 : Int)) (R (V.tup [V.agg [nilS, nilS], iv n])) (K0G Tryz.prog glX 98 [V.lst 3 (kdl l), V.agg [iv b.1, iv b.2.1.1, iv b.2.1.2.1, iv b.2.1.2.2, V.raw (Value.int IntKind.u8 b.2.2.1), V.raw (Value.int IntKind.u8 b.2.2.2)]] fun v => onBool v fun b_1 => ifB (!b_1) (R (V.tup [V.agg [nilS, nilS], iv (11 : Int)])) (onNat b.1 fun m => onSome (kdl l)[m]? fun row => onCons (List.drop 0 row) fun u r => onLst u fun s es => onCons r fun u r => onLst u fun s_1 es_1 => onCons r fun u r => onIntK IntKind.i64 u fun n => K0G Tryz.prog glX 95 [V.agg [V.lst s es, V.lst s_1 es_1, iv n], iv (IntKind.i64.wrap b.2.2.1), V.agg [iv b.2.1.1, iv b.2.1.2.1, iv b.2.1.2.2]] fun v => onAgg v fun cs => onCons cs fun u r => onLst u fun s es => onCons r fun u r => onLst u fun s_2 es_2 => onNil r (R (V.tup [V.agg [V.lst s es, V.lst s_2 es_2], iv (0 : Int)]))))) (by kernel_rfl) ?_
  refine kinds16 hl (fun hK => onIntK_iv (ifB_f rfl (brick98 hr hll (onBool_bv (ifB_mk (fun c => h1 11 (.inr (.inr (.inl ⟨hK, nbt c, rfl⟩))) (by decide)) (fun c => ?_)))))) (fun h16 => onIntK_iv (ifB_t rfl (h1 4 (.inl ⟨h16, rfl⟩) (by decide)))) (fun h16 hn => onIntK_iv (ifB_t rfl (h1 10 (.inr (.inl ⟨h16, hn, rfl⟩)) (by decide))))
  have hB := nb c
  obtain ⟨q, n, hP, h3, h4, _⟩ := putb hK hl hB hr
  refine onNat_mk (m := b.1.toNat) (by have := hP.k0; omega) (del hP.at_ ?_)
  rw [hP.turn, wr (by have := hP.t24; omega) (by have := hP.t24; omega)]
  exact put95 (by_ := b.2.1) hP.t24 hP.put hP.bd (onAgg_agg (onCons_cons (onLst_lst (onCons_cons (onLst_lst (onNil_nil (h2 (.inr (.inr (.inr ⟨hK, hB, rfl⟩))) q n hP h3 h4)))))))
def NormP (q : Kd) (n : Nat) (b r : Bk) : Prop := (∃ t, t < 24 ∧ LikeP q t n b.2.1 ∧ (∀ u, u < t → ¬ LikeP q u n b.2.1) ∧ ((Bd 1000 (cAt q t n b.2.1) ∧ r = (b.1, cAt q t n b.2.1, (t : Int), b.2.2.2)) ∨ (¬ Bd 1000 (cAt q t n b.2.1) ∧ r = b))) ∨ ((∀ u, u < 24 → ¬ LikeP q u n b.2.1) ∧ r = b)
theorem NormP.uniq {q : Kd} {n : Nat} {b r s : Bk} (h : NormP q n b r) (g : NormP q n b s) : r = s := by
  rcases h with ⟨t, h1, h2, h3, h4⟩ | ⟨h1, h2⟩ <;> rcases g with ⟨u, g1, g2, g3, g4⟩ | ⟨g1, g2⟩
  · have : t = u := by
      rcases Nat.lt_trichotomy t u with h | h | h
      · exact (g3 t h h2).elim
      · exact h
      · exact (h3 u h g2).elim
    subst this
    rcases h4 with ⟨a, b⟩ | ⟨a, b⟩ <;> rcases g4 with ⟨c, d⟩ | ⟨c, d⟩
    · rw [b, d]
    · exact (c a).elim
    · exact (a c).elim
    · rw [b, d]
  · exact (g1 t h1 h2).elim
  · exact (h1 u g1 g2).elim
  · rw [h2, g2]
end Go.Proofs.YtbionhgjgcpogaaGreatDoor
namespace Go.Proofs.YtbionhgjgcpogaaGreatDoor
open Go Go.Proofs.YtbionhgjgcpogaaGreatDoor.Clean
set_option linter.unusedVariables false
set_option linter.unusedSimpArgs false
set_option maxRecDepth 10000
theorem knb0_bd {q : Kd} {t : Nat} (hq : PutP q) : ∀ k ∈ knb q t (0, 0, 0), Bd 15 k.1 := fun k hk => by
  obtain ⟨x, hx, rfl⟩ := List.mem_map.1 hk
  exact (add_bd (tn_bd ((hq.2.2.1 x hx).1.mono (c := -15) (d := 15) (by omega) (by omega))) (Bd0 0 (by omega))).mono (by omega)
theorem walk {q : Kd} {t n : Nat} {at_ : Cl} {K : Int → Int → Int → Bool → Prop} (hP : KnbP q) (hpos : 1 ≤ q.1.length) (ht : t < 24) (hn : n < 24) (hb : Bd 1000 at_) (h1 : LikeP q t n at_ → K (cAt q t n at_).1 (cAt q t n at_).2.1 (cAt q t n at_).2.2 true) (h2 : ¬ LikeP q t n at_ → K 0 0 0 false) :
    K0G Tryz.prog glX 95 [.agg (kdr q), iv (t : Int), .agg (clr (0, 0, 0))] fun v => onAgg v fun cs => onCons cs fun u_1 r => onLst u_1 fun s es => onCons r fun u_2 r => onLst u_2 fun s_6 es_6 => onNil r (K0G Tryz.prog glX 61 [V.agg [V.lst s es, V.lst s_6 es_6]] fun v => onAgg v fun cs => onCons cs fun u_3 r => onLst u_3 fun s es => onCons r fun u_4 r => onLst u_4 fun s_7 es_7 => onNil r (K0G Tryz.prog glX 55 [V.agg [V.lst s es, V.lst s_7 es_7], V.agg [V.lst 3 (cll (plc q n at_)), V.lst 5 (knl (sortK (knb q n at_)))]] fun v => onTup v fun vs => onCons vs fun u_5 r => onAgg u_5 fun cs => onCons cs fun u_6 r_1 => onIntK IntKind.i64 u_6 fun n => onCons r_1 fun u_7 r_2 => onIntK IntKind.i64 u_7 fun n_2 => onCons r_2 fun u_8 r_3 => onIntK IntKind.i64 u_8 fun n_3 => onNil r_3 (onCons r fun u_9 r => onBool u_9 fun b_1 => onNil r (K n n_2 n_3 b_1)))) := by
  have hq := hP.put
  have h60 := hq.2.2.2
  have h30 := hq.2.1
  refine put95 (by_ := (0, 0, 0)) ht hq (Bd0 _ (by omega)) (onAgg_agg (onCons_cons (onLst_lst (onCons_cons (onLst_lst (onNil_nil ?_))))))
  refine sorted61 (by rw [knb_length]; omega) (knb_fac hP ht) (onAgg_agg (onCons_cons (onLst_lst (onCons_cons (onLst_lst (onNil_nil ?_))))))
  have key := look_iff (t := t) (n := n) (at_ := at_) hP ht hn
  refine stepTo55 (by rw [plc_length, plc_length]) (by rw [plc_length]; exact hpos) (by rw [plc_length]; omega) (by rw [sortK_length, sortK_length, knb_length, knb_length]) (by rw [sortK_length, knb_length]; omega) (fun c hc => (plc0_bd hq c hc).mono (by omega)) (fun c hc => (plc1_bd hq hb c hc).mono (by omega)) (fun k hk => (knb0_bd hq k ((sortK_perm _).mem_iff.1 hk)).mono (by omega)) (fun a b => ?_) (fun a => ?_)
  · exact h1 (key.1 ⟨a, b⟩)
  · exact h2 (fun x => a (key.2 x))
set_option maxHeartbeats 1000000 in
theorem norm26 {l : List Kd} {b : Bk} {R : V → Prop} (hl : ∀ q ∈ l, KdR q) (hll : (l.length : Int) ≤ 1000000) (hr : BkR b) (h1 : ∀ e, askE l b e → e ≠ 0 → R (.tup [.agg (bkr (0, (0, 0, 0), 0, 0)), iv e])) (h2 : askE l b 0 → ∀ q n r, PutB l b q n → NormP q n b r → R (.tup [.agg (bkr r), iv 0])) : K0G Tryz.prog glX 26 [.lst 3 (kdl l), .agg (bkr b)] R := by
  refine K0_by hmX hcE 3000 Tryz.func26 (p := K0G Tryz.prog glX 57 [V.lst 3 (kdl l), V.agg [iv b.1, iv b.2.1.1, iv b.2.1.2.1, iv b.2.1.2.2, V.raw (Value.int IntKind.u8 b.2.2.1), V.raw (Value.int IntKind.u8 b.2.2.2)]] fun v => onTup v fun vs => onCons vs fun u r => onAgg u fun cs => onCons cs fun u r_1 => onLst u fun s es => onCons r_1 fun u r_2 => onLst u fun s_1 es_1 => onNil r_2 (onCons r fun u r => onIntK IntKind.i64 u fun n => onNil r (ifB (n != (0 : Int)) (R (V.tup [V.agg [iv (0 : Int), iv (0 : Int), iv (0 : Int), iv (0 : Int), V.raw (Value.int IntKind.u8 (0 : Int)), V.raw (Value.int IntKind.u8 (0 : Int))], iv n])) (K0G Tryz.prog glX 61 [V.agg [V.lst s es, V.lst s_1 es_1]] fun v => onAgg v fun cs => onCons cs fun u r => onLst u fun s_2 es_2 => onCons r fun u r => onLst u fun s_3 es_3 => onNil r (onNat b.1 fun m => onSome (kdl l)[m]? fun row => onCons (List.drop 0 row) fun u r => onLst u fun s_4 es_4 => onCons r fun u r => onLst u fun s_5 es_5 => onCons r fun u r => onIntK IntKind.i64 u fun n_1 => La 6 [(0 : Tmp), (1 : Tmp), (4 : Tmp)] (WY Tryz.prog cfE 2989 (Env.mk (Bs.mk 0 (spared [] [V.yl (Id.p 5), V.ptr (Id.p 4) 0 0] ++ [])) 6 none 17 94 0) (cdAt [1, 0, 0] (bodyOf Tryz.f94))) (Qblk 0 (QendX Tryz.prog Tryz.f94 fun v h' => kontY (WY Tryz.prog cfE 2992) (Env.mk (Bs.mk 0 []) 0 none 44 26 0) (Qblk 0 (Qthen (WY Tryz.prog cfE 2995 (Env.mk (Bs.mk 0 []) 0 none 44 26 0) (cdAt [1, 1, 1, 1, 1] (bodyOf Tryz.f26)) (QendX Tryz.prog Tryz.f26 fun v h => R (frzW h v))) (QendX Tryz.prog Tryz.f26 fun v h => R (frzW h v)))) (mkT [(0, V.lst 3 (kdl l)), (1, V.agg [iv b.1, iv b.2.1.1, iv b.2.1.2.1, iv b.2.1.2.2, V.raw (Value.int IntKind.u8 b.2.2.1), V.raw (Value.int IntKind.u8 b.2.2.2)]), (3, V.ptr (Id.p 0) 0 0), (4, V.ptr (Id.p 1) 0 0), (5, V.ptr (Id.p 2) 0 0), (6, V.ptr (Id.p 3) 0 0), (7, iv n), (12, V.tup [V.agg [V.lst s es, V.lst s_1 es_1], iv n]), (13, V.lst 3 (kdl l)), (14, V.agg [iv b.1, iv b.2.1.1, iv b.2.1.2.1, iv b.2.1.2.2, V.raw (Value.int IntKind.u8 b.2.2.1), V.raw (Value.int IntKind.u8 b.2.2.2)]), (15, V.tup [V.agg [V.lst s es, V.lst s_1 es_1], iv n]), (16, V.agg [V.lst s es, V.lst s_1 es_1]), (17, iv n), (18, iv n), (19, bv (n != (0 : Int))), (22, V.agg [V.lst s es, V.lst s_1 es_1]), (23, V.agg [V.lst s_2 es_2, V.lst s_3 es_3]), (24, V.lst 3 (kdl l)), (25, V.ptr (Id.p 0) 0 0), (26, iv b.1), (27, V.adr row 0), (28, V.agg [V.lst s_4 es_4, V.lst s_5 es_5, iv n_1]), (29, V.fn (Fn.func 94) [] [V.ptr (Id.p 4) 0 0])]) 5 v (bif cfE.clean 94 then gcH 6 v h' else h'))) (St.mk (mkT [(0, V.yl (Id.p 5)), (1, V.ptr (Id.p 4) 0 0), (4, iv (0 : Int))]) (Hp.mk [(5, O.lp (Lr.mk LoopState.ready none (mkT [(0, V.lst 3 (kdl l)), (1, V.agg [iv b.1, iv b.2.1.1, iv b.2.1.2.1, iv b.2.1.2.2, V.raw (Value.int IntKind.u8 b.2.2.1), V.raw (Value.int IntKind.u8 b.2.2.2)]), (3, V.ptr (Id.p 0) 0 0), (4, V.ptr (Id.p 1) 0 0), (5, V.ptr (Id.p 2) 0 0), (6, V.ptr (Id.p 3) 0 0), (7, iv n), (12, V.tup [V.agg [V.lst s es, V.lst s_1 es_1], iv n]), (13, V.lst 3 (kdl l)), (14, V.agg [iv b.1, iv b.2.1.1, iv b.2.1.2.1, iv b.2.1.2.2, V.raw (Value.int IntKind.u8 b.2.2.1), V.raw (Value.int IntKind.u8 b.2.2.2)]), (15, V.tup [V.agg [V.lst s es, V.lst s_1 es_1], iv n]), (16, V.agg [V.lst s es, V.lst s_1 es_1]), (17, iv n), (18, iv n), (19, bv (n != (0 : Int))), (22, V.agg [V.lst s es, V.lst s_1 es_1]), (23, V.agg [V.lst s_2 es_2, V.lst s_3 es_3]), (24, V.lst 3 (kdl l)), (25, V.ptr (Id.p 0) 0 0), (26, iv b.1), (27, V.adr row 0), (28, V.agg [V.lst s_4 es_4, V.lst s_5 es_5, iv n_1]), (29, V.fn (Fn.func 94) [] [V.ptr (Id.p 4) 0 0])]) 44 (Array.mk [30, 31]) (rfA (cdAt [1, 1, 1, 1, 0, 1, 0] (bodyOf Tryz.f26))) (rfB (cdAt [1, 1, 1, 1, 0, 1, 0] (bodyOf Tryz.f26))) 26)), (4, O.rows 3 false [[V.lst s_4 es_4, V.lst s_5 es_5, iv n_1]]), (3, O.rows 2 false [[V.lst s_2 es_2, V.lst s_3 es_3]]), (2, O.rows 1 false [[iv (0 : Int)]]), (1, O.rows 6 false [[iv (0 : Int), iv (0 : Int), iv (0 : Int), iv (0 : Int), V.raw (Value.int IntKind.u8 (0 : Int)), V.raw (Value.int IntKind.u8 (0 : Int))]]), (0, O.rows 6 false [[iv b.1, iv b.2.1.1, iv b.2.1.2.1, iv b.2.1.2.2, V.raw (Value.int IntKind.u8 b.2.2.1), V.raw (Value.int IntKind.u8 b.2.2.2)]])] 6 []))))))) (by kernel_rfl) ?_
  refine body57 hl hll hr (fun e he hne => onTup_tup (onCons_cons (onAgg_agg (onCons_cons (onLst_nil (onCons_cons (onLst_nil (onNil_nil (onCons_cons (onIntK_iv (onNil_nil (ifB_t (by simpa using hne) (h1 e he hne))))))))))))) (fun h0 q n hP hK hb => onTup_tup (onCons_cons (onAgg_agg (onCons_cons (onLst_lst (onCons_cons (onLst_lst (onNil_nil (onCons_cons (onIntK_iv (onNil_nil (ifB_f rfl ?_))))))))))))
  have h60 := hP.put.2.2.2
  refine sorted61 (by rw [knb_length]; omega) (knb_fac hK hP.t24) (onAgg_agg (onCons_cons (onLst_lst (onCons_cons (onLst_lst (onNil_nil ?_))))))
  have hrow : (kdl l)[b.1.toNat]? = some (kdr q) := by simp [kdl, hP.at_]
  refine onNat_mk (m := b.1.toNat) (by have := hP.k0; omega) (onSome_mk hrow (onCons_cons (onLst_lst (onCons_cons (onLst_lst (onCons_cons (onIntK_iv ?_)))))))
  obtain ⟨x, hx⟩ : ∃ x, x = plc q n b.2.1 := ⟨_, rfl⟩
  obtain ⟨u, hu⟩ : ∃ u, u = knb q n b.2.1 := ⟨_, rfl⟩
  obtain ⟨u', hu'⟩ : ∃ u', u' = sortK (knb q n b.2.1) := ⟨_, rfl⟩
  rw [← hx, ← hu', ← hu]
  refine La.of (σ := Nat) (fun i => sh26 l b q x u u' i) (fun i => i ≤ 24 ∧ ∀ t, t < i → ¬ LikeP q t n b.2.1) (fun i => 24 - i) 0 (by kernel_rfl) ⟨by omega, fun t h => by omega⟩ ?_
  rintro i ⟨g1, g2⟩ J hJ
  obtain ⟨n0, hn0⟩ : ∃ n0, n0 = n := ⟨_, rfl⟩
  subst hn0
  refine see (p := ifB (decide ((↑i : Int) < (24 : Int))) (K0G Tryz.prog glX 95 [V.agg [V.lst 3 (cll q.1), V.lst 5 (knl q.2.1), iv q.2.2], iv (↑i : Int), V.agg [iv (0 : Int), iv (0 : Int), iv (0 : Int)]] fun v => onAgg v fun cs => onCons cs fun u_1 r => onLst u_1 fun s es => onCons r fun u_2 r => onLst u_2 fun s_6 es_6 => onNil r (K0G Tryz.prog glX 61 [V.agg [V.lst s es, V.lst s_6 es_6]] fun v => onAgg v fun cs => onCons cs fun u_3 r => onLst u_3 fun s es => onCons r fun u_4 r => onLst u_4 fun s_7 es_7 => onNil r (K0G Tryz.prog glX 55 [V.agg [V.lst s es, V.lst s_7 es_7], V.agg [V.lst 3 (cll x), V.lst 5 (knl u')]] fun v => onTup v fun vs => onCons vs fun u_5 r => onAgg u_5 fun cs => onCons cs fun u_6 r_1 => onIntK IntKind.i64 u_6 fun n => onCons r_1 fun u_7 r_2 => onIntK IntKind.i64 u_7 fun n_2 => onCons r_2 fun u_8 r_3 => onIntK IntKind.i64 u_8 fun n_3 => onNil r_3 (onCons r fun u_9 r => onBool u_9 fun b_1 => onNil r (ifB b_1 (K0G Tryz.prog glX 84 [V.agg [iv n, iv n_2, iv n_3], iv (-1000 : Int), iv (1000 : Int)] fun v => onBool v fun b_2 => ifB (!b_2) (R (V.tup [V.agg [iv b.1, iv b.2.1.1, iv b.2.1.2.1, iv b.2.1.2.2, V.raw (Value.int IntKind.u8 b.2.2.1), V.raw (Value.int IntKind.u8 b.2.2.2)], iv (0 : Int)])) (R (V.tup [V.agg [iv b.1, iv n, iv n_2, iv n_3, V.raw (Value.int IntKind.u8 (IntKind.u8.wrap (↑i : Int))), V.raw (Value.int IntKind.u8 b.2.2.2)], iv (0 : Int)]))) (J (St.mk (mkT [(0, V.yl (Id.p 5)), (1, V.ptr (Id.p 4) 0 0), (4, iv (IntKind.i64.wrap ((↑i : Int) + (1 : Int))))]) (Hp.mk [(5, O.lp (Lr.mk LoopState.ready none (mkT [(0, V.lst 3 (kdl l)), (1, V.agg [iv b.1, iv b.2.1.1, iv b.2.1.2.1, iv b.2.1.2.2, V.raw (Value.int IntKind.u8 b.2.2.1), V.raw (Value.int IntKind.u8 b.2.2.2)]), (3, V.ptr (Id.p 0) 0 0), (4, V.ptr (Id.p 1) 0 0), (5, V.ptr (Id.p 2) 0 0), (6, V.ptr (Id.p 3) 0 0), (7, iv (0 : Int)), (12, V.tup [V.agg [V.lst 3 (cll x), V.lst 5 (knl u)], iv (0 : Int)]), (13, V.lst 3 (kdl l)), (14, V.agg [iv b.1, iv b.2.1.1, iv b.2.1.2.1, iv b.2.1.2.2, V.raw (Value.int IntKind.u8 b.2.2.1), V.raw (Value.int IntKind.u8 b.2.2.2)]), (15, V.tup [V.agg [V.lst 3 (cll x), V.lst 5 (knl u)], iv (0 : Int)]), (16, V.agg [V.lst 3 (cll x), V.lst 5 (knl u)]), (17, iv (0 : Int)), (18, iv (0 : Int)), (19, bv false), (22, V.agg [V.lst 3 (cll x), V.lst 5 (knl u)]), (23, V.agg [V.lst 3 (cll x), V.lst 5 (knl u')]), (24, V.lst 3 (kdl l)), (25, V.ptr (Id.p 0) 0 0), (26, iv b.1), (27, V.adr [V.lst 3 (cll q.1), V.lst 5 (knl q.2.1), iv q.2.2] 0), (28, V.agg [V.lst 3 (cll q.1), V.lst 5 (knl q.2.1), iv q.2.2]), (29, V.fn (Fn.func (94 : FuncId)) [] [V.ptr (Id.p 4) 0 0])]) 44 (Array.mk [30, 31]) (rfA (cdAt [1, 1, 1, 1, 0, 1, 0] (bodyOf Tryz.f26))) (rfB (cdAt [1, 1, 1, 1, 0, 1, 0] (bodyOf Tryz.f26))) 26)), (4, O.rows 3 false [[V.lst 3 (cll q.1), V.lst 5 (knl q.2.1), iv q.2.2]]), (3, O.rows 2 false [[V.lst 3 (cll x), V.lst 5 (knl u')]]), (2, O.rows 1 false [[iv (0 : Int)]]), (1, O.rows 6 false [[iv (0 : Int), iv (0 : Int), iv (0 : Int), iv (0 : Int), V.raw (Value.int IntKind.u8 (0 : Int)), V.raw (Value.int IntKind.u8 (0 : Int))]]), (0, O.rows 6 false [[iv b.1, iv b.2.1.1, iv b.2.1.2.1, iv b.2.1.2.2, V.raw (Value.int IntKind.u8 b.2.2.1), V.raw (Value.int IntKind.u8 b.2.2.2)]])] 6 [])))))))) (R (V.tup [V.agg [iv b.1, iv b.2.1.1, iv b.2.1.2.1, iv b.2.1.2.2, V.raw (Value.int IntKind.u8 b.2.2.1), V.raw (Value.int IntKind.u8 b.2.2.2)], iv (0 : Int)]))) (by kernel_rfl) ?_
  refine ifB_mk (fun c => ?_) (fun c => h2 h0 q n0 b hP (.inr ⟨fun t ht => g2 t (by have := of_decide_eq_false c; omega), rfl⟩))
  have hi : i < 24 := by have := of_decide_eq_true c; omega
  rw [hx, hu']
  refine walk hK hP.pos hi hP.t24 hb (fun e => ifB_t rfl ?_) (fun e => ifB_f rfl ?_)
  · refine near84 (c := cAt q i n0 b.2.1) (onBool_bv (ifB_mk (fun f => h2 h0 q n0 b hP (.inl ⟨i, hi, e, g2, .inr ⟨nbt f, rfl⟩⟩)) (fun f => ?_)))
    rw [u8w (by omega) (by omega)]
    exact h2 h0 q n0 _ hP (.inl ⟨i, hi, e, g2, .inl ⟨nb f, rfl⟩⟩)
  · rw [wr1i hi (by omega), ← hx, ← hu']
    refine hJ (i + 1) ⟨hi, fun t ht => ?_⟩ (by omega)
    rcases Nat.lt_succ_iff_lt_or_eq.1 ht with ht | ht
    · exact g2 t ht
    · rw [ht]; exact e
end Go.Proofs.YtbionhgjgcpogaaGreatDoor
namespace Go.Proofs.YtbionhgjgcpogaaGreatDoor
open Go Go.Proofs.YtbionhgjgcpogaaGreatDoor.Clean
set_option linter.unusedVariables false
set_option maxRecDepth 100000
end Go.Proofs.YtbionhgjgcpogaaGreatDoor
namespace Go.Proofs.YtbionhgjgcpogaaGreatDoor
open Go Go.Proofs.YtbionhgjgcpogaaGreatDoor.Clean
set_option linter.unusedVariables false
set_option linter.unusedSimpArgs false
set_option maxRecDepth 10000
theorem great12' {l : List Kd} {R : V → Prop} (h : R (bv (dc (GreatP l [])))) : K0G Tryz.prog glX 12 [.lst 3 (kdl l), .agg [nilS]] R :=
  K0_args (great12 (m := []) h) (fun F w xs hx => by
    simp [riL, ri, riRows, bkl, nilS] at hx ⊢
    obtain ⟨x, r, e, h1, y, e2, vs, e3, e4⟩ := hx
    exact ⟨x, r, e, h1, y, e2, vs, e3, _, e4, .inl rfl⟩)
theorem onN {b : Bk} {e : Int} {k : Int → Int → Int → Int → Int → Int → Int → Prop} (h : k b.1 b.2.1.1 b.2.1.2.1 b.2.1.2.2 b.2.2.1 b.2.2.2 e) : onTup (V.tup [V.agg (bkr b), iv e]) fun vs => onCons vs fun u r => onAgg u fun cs => onCons cs fun u r_1 => onIntK IntKind.i64 u fun n_1 => onCons r_1 fun u r_2 => onIntK IntKind.i64 u fun n_2 => onCons r_2 fun u r_3 => onIntK IntKind.i64 u fun n_3 => onCons r_3 fun u r_4 => onIntK IntKind.i64 u fun n_4 => onCons r_4 fun u r_5 => onIntK IntKind.u8 u fun n_5 => onCons r_5 fun u r_6 => onIntK IntKind.u8 u fun n_6 => onNil r_6 (onCons r fun u r => onIntK IntKind.i64 u fun b_1 => onNil r (k n_1 n_2 n_3 n_4 n_5 n_6 b_1)) := h
theorem PutB.same {l : List Kd} {b : Bk} {q q' : Kd} {n n' : Nat} (h : PutB l b q n) (h' : PutB l b q' n') : q = q' ∧ n = n' := by
  have e := h.at_
  rw [h'.at_] at e
  have t := h.turn
  rw [h'.turn] at t
  exact ⟨by cases e; rfl, by omega⟩
theorem GreatP.not {l : List Kd} (h : ¬ GreatP l []) (hr : ∀ q ∈ l, ∀ k ∈ q.2.1, KnR k) : l.length ≤ 20 ∧ ∀ q ∈ l, KdR q := by
  refine ⟨Nat.le_of_not_lt fun x => h (.inl x), fun q hq => ⟨hr q hq, Nat.le_of_not_lt fun x => h (.inr (.inr ⟨q, hq, .inl x⟩)), Nat.le_of_not_lt fun x => h (.inr (.inr ⟨q, hq, .inr x⟩))⟩⟩
end Go.Proofs.YtbionhgjgcpogaaGreatDoor
namespace Go.Proofs.YtbionhgjgcpogaaGreatDoor
open Go Go.Proofs.YtbionhgjgcpogaaGreatDoor.Clean
set_option linter.unusedVariables false
set_option maxRecDepth 100000
def clX (g : FuncId) : Bool := !(inN [104, 110, 129, 132, 135, 145, 146, 147, 148, 150, 151, 152, 153, 157, 158, 159, 161, 162, 163, 164, 166, 167, 168, 170, 171, 172, 173, 174, 176, 179, 182, 120, 94] g)
abbrev KFX (f : Fact) : Prop := K0G Tryz.prog glX f.g f.args fun v => v = f.r
end Go.Proofs.YtbionhgjgcpogaaGreatDoor
