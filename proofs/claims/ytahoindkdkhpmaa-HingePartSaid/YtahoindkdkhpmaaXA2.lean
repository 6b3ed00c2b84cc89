/- A2: a part of the proof. -/
import Derived.Test.YtahoindkdkhpmaaXA1
namespace Go.Proofs.Ytahoindkdkhpmaa
open Go Go.Proofs.Ytahoindkdkhpmaa.Clean
set_option linter.unusedVariables false
set_option linter.unusedSimpArgs false
set_option maxRecDepth 10000

/-! the table of all angles -/
def Rk (k : Nat) : Int := [1, 5, 13, 17, 25].getD k 0
def okT (r p q : Int) : Bool := decide (p * p + q * q = r * r) && decide (gcdl [p, q, r] = 1)
def FQ (r p : Int) (j : Nat) : List (Int × Int × Int) := ((List.range j).filter fun (j : Nat) => okT r p (-r + (j : Int))).map fun (j : Nat) => (p, -r + (j : Int), r)
def FP (r : Int) (i : Nat) : List (Int × Int × Int) := (List.range i).flatMap fun (i : Nat) => FQ r (-r + (i : Int)) (2 * r.toNat + 1)
def FR (k : Nat) : List (Int × Int × Int) := (List.range k).flatMap fun (k : Nat) => FP (Rk k) (2 * (Rk k).toNat + 1)
theorem okT_no1 {r p q : Int} (h : (p * p + q * q == r * r) = false) : okT r p q = false := by
  have : ¬ (p * p + q * q = r * r) := by simpa using h
  unfold okT
  rw [decide_eq_false this]
  rfl
theorem okT_no2 {r p q : Int} (h : (((gcdl [p, q, r] : Nat) : Int) == 1) = false) : okT r p q = false := by
  have h' : ¬ (((gcdl [p, q, r] : Nat) : Int) = 1) := by simpa using h
  have : ¬ (gcdl [p, q, r] = 1) := by omega
  unfold okT
  rw [decide_eq_false this, Bool.and_false]
theorem FR_all : FR 5 = tabL := by kernel_rfl
theorem FQ_succ (r p : Int) (j : Nat) : FQ r p (j + 1) = FQ r p j ++ (if okT r p (-r + (j : Int)) = true then [(p, -r + (j : Int), r)] else []) := by
  unfold FQ
  rw [List.range_succ, List.filter_append, List.map_append]
  congr 1
  by_cases h : okT r p (-r + (j : Int)) = true <;> simp [h]
theorem FP_succ (r : Int) (i : Nat) : FP r (i + 1) = FP r i ++ FQ r (-r + (i : Int)) (2 * r.toNat + 1) := by
  unfold FP
  rw [List.range_succ, List.flatMap_append]
  simp
theorem FR_succ (k : Nat) : FR (k + 1) = FR k ++ FP (Rk k) (2 * (Rk k).toNat + 1) := by
  unfold FR
  rw [List.range_succ, List.flatMap_append]
  simp
theorem mono_len {f : Nat → List (Int × Int × Int)} {g : Nat → List (Int × Int × Int)} (h : ∀ n, f (n + 1) = f n ++ g n) : ∀ m n, m ≤ n → (f m).length ≤ (f n).length := by
  intro m n hmn
  induction n with
  | zero => have : m = 0 := by omega
            rw [this]; exact Nat.le_refl _
  | succ n ih =>
    by_cases he : m = n + 1
    · rw [he]; exact Nat.le_refl _
    · have := ih (by omega)
      rw [h, List.length_append]; omega
theorem FR_le {k : Nat} (hk : k ≤ 5) : (FR k).length ≤ 36 := by
  have := mono_len FR_succ k 5 hk
  have h : (FR 5).length = 36 := by rw [FR_all]; rfl
  omega
theorem FP_le {k i : Nat} (hk : k < 5) (hi : i ≤ 2 * (Rk k).toNat + 1) : (FR k).length + (FP (Rk k) i).length ≤ 36 := by
  have h1 := mono_len (FP_succ (Rk k)) i _ hi
  have h2 := FR_le (k := k + 1) (by omega)
  rw [FR_succ, List.length_append] at h2
  omega
theorem FQ_le {k i j : Nat} (hk : k < 5) (hi : i < 2 * (Rk k).toNat + 1) (hj : j ≤ 2 * (Rk k).toNat + 1) : (FR k).length + (FP (Rk k) i).length + (FQ (Rk k) (-(Rk k) + (i : Int)) j).length ≤ 36 := by
  have h1 := mono_len (FQ_succ (Rk k) (-(Rk k) + (i : Int))) j _ hj
  have h2 := FP_le (k := k) (i := i + 1) hk (by omega)
  rw [FP_succ, List.length_append] at h2
  omega
theorem Rk_bd {k : Nat} (hk : k < 5) : 1 ≤ Rk k ∧ Rk k ≤ 25 := by
  have : k = 0 ∨ k = 1 ∨ k = 2 ∨ k = 3 ∨ k = 4 := by omega
  rcases this with h | h | h | h | h <;> subst h <;> decide

/-- Angles, as the cells of the table. -/
def cl (fs : List (Int × Int × Int)) : List V := fs.flatMap fun t => [iv t.1, iv t.2.1, iv t.2.2]
def tb (fs : List (Int × Int × Int)) : List V := cl fs ++ List.replicate (108 - 3 * fs.length) (iv 0)
theorem cl_length (fs : List (Int × Int × Int)) : (cl fs).length = 3 * fs.length := by
  induction fs with
  | nil => rfl
  | cons t fs ih => simp only [cl, List.flatMap_cons, List.length_append, List.length_cons, List.length_nil] at ih ⊢; omega
theorem tb_store {fs : List (Int × Int × Int)} {m : Nat} (hm : m = fs.length) (h : fs.length < 36) (t : Int × Int × Int) : List.take (0 + m * 3) (tb fs) ++ [iv t.1, iv t.2.1, iv t.2.2] ++ List.drop (0 + m * 3 + 3) (tb fs) = tb (fs ++ [t]) := by
  subst hm
  have hl := cl_length fs
  have h1 : List.take (0 + fs.length * 3) (tb fs) = cl fs := by unfold tb; rw [List.take_append_of_le_length (by omega), List.take_of_length_le (by omega)]
  have h2 : List.drop (0 + fs.length * 3 + 3) (tb fs) = List.replicate (108 - 3 * (fs ++ [t]).length) (iv 0) := by
    unfold tb
    rw [List.drop_append, List.drop_eq_nil_of_le (by omega), List.nil_append, List.drop_replicate, List.length_append]
    congr 1
    simp
    omega
  rw [h1, h2]
  unfold tb cl
  rw [List.flatMap_append]
  simp

theorem angles48 {R : V → Prop} (h : R tabV) : K0 Try.prog 48 [] R := by
  refine K0_of_W0 (kps := kp48) hN hmH Try.func48 (see (p := Lp (kp48 0) (W Try.prog CN 54 kp48 0 (cdAt [1, 1, 1, 0, 1, 0, 0] (bodyOf Try.f48))) (Qblk 0 (Qseq (W Try.prog CN 54 kp48 0 (cdAt [1, 1, 1, 1] (bodyOf Try.f48))) (Qend0 Try.prog Try.f48 R))) (St.mk (mkT [(0, V.ptr 0 0 0), (1, V.ptr 1 0 0), (2, iv (0 : Int)), (7, V.agg [iv (1 : Int), iv (5 : Int), iv (13 : Int), iv (17 : Int), iv (25 : Int)]), (8, iv (0 : Int))]) (Hp.mk [(0, O.rows 108 false [zrow]), (1, O.rows 108 true [zrow])] 2))) (by kernel_rfl) ?_)
  refine Lp.of (σ := Nat × Int × List V) (fun s => ⟨mkT [(0, .ptr 0 0 0), (1, .ptr 1 0 0), (2, iv s.2.1), (7, .agg [iv 1, iv 5, iv 13, iv 17, iv 25]), (8, iv (s.1 : Int))], ⟨[(0, .rows 108 false [zrow]), (1, .rows 108 true [s.2.2])], 2⟩⟩) (fun s => s.1 ≤ 5 ∧ s.2.1 = ((FR s.1).length : Int) ∧ s.2.2 = tb (FR s.1)) (fun s => 5 - s.1) (0, 0, tb []) (by kernel_rfl) ⟨by decide, rfl, rfl⟩ ?_
  rintro ⟨k, n, tb'⟩ ⟨hk, hn, htb⟩ J hJ
  simp only at hk hn htb
  by_cases hk5 : k = 5
  · rw [hk5, FR_all] at hn htb
    have hn : n = 36 := hn
    have htb : tb' = tabC := by rw [htb]; kernel_rfl
    subst hk5; subst hn; subst htb
    exact see (p := R tabV) (by kernel_rfl) h
  have hk5 : k < 5 := by omega
  obtain ⟨tb, htb'⟩ : ∃ tb, tb = tb' := ⟨_, rfl⟩
  subst htb'
  refine see (p := ifB (decide ((↑k : Int) < (5 : Int))) (need (k < 5) (onSome [iv (1 : Int), iv (5 : Int), iv (13 : Int), iv (17 : Int), iv (25 : Int)][k * 1]? fun v => onIntK IntKind.i64 v fun n_1 => Lp (kp48 2) (W Try.prog CN 54 kp48 2 (cdAt [1, 1, 1, 0, 1, 0, 0, 1, 1, 0, 0, 1, 1, 0, 0] (bodyOf Try.f48))) (Qblk 2 (Qblk 1 (Qseq (W Try.prog CN 54 kp48 0 (cdAt [1, 1, 1, 0, 1, 0, 0, 1, 1, 1] (bodyOf Try.f48))) (Qlp (kp48 0) J (Qblk 0 (Qseq (W Try.prog CN 54 kp48 0 (cdAt [1, 1, 1, 1] (bodyOf Try.f48))) (Qend0 Try.prog Try.f48 R))))))) (St.mk (mkT [(0, V.ptr 0 0 0), (1, V.ptr 1 0 0), (2, iv n), (4, iv n_1), (5, iv (IntKind.i64.wrap ((0 : Int) - n_1))), (7, V.agg [iv (1 : Int), iv (5 : Int), iv (13 : Int), iv (17 : Int), iv (25 : Int)]), (8, iv (↑k : Int))]) (Hp.mk [(0, O.rows 108 false [zrow]), (1, O.rows 108 true [tb])] 2)))) (onCons (List.drop 0 tb) fun u r => onIntK IntKind.i64 u fun n => onCons r fun u r => onIntK IntKind.i64 u fun n_1 => onCons r fun u r => onIntK IntKind.i64 u fun n_2 => onCons r fun u r => onIntK IntKind.i64 u fun n_3 => onCons r fun u r => onIntK IntKind.i64 u fun n_4 => onCons r fun u r => onIntK IntKind.i64 u fun n_5 => onCons r fun u r => onIntK IntKind.i64 u fun n_6 => onCons r fun u r => onIntK IntKind.i64 u fun n_7 => onCons r fun u r => onIntK IntKind.i64 u fun n_8 => onCons r fun u r => onIntK IntKind.i64 u fun n_9 => onCons r fun u r => onIntK IntKind.i64 u fun n_10 => onCons r fun u r => onIntK IntKind.i64 u fun n_11 => onCons r fun u r => onIntK IntKind.i64 u fun n_12 => onCons r fun u r => onIntK IntKind.i64 u fun n_13 => onCons r fun u r => onIntK IntKind.i64 u fun n_14 => onCons r fun u r => onIntK IntKind.i64 u fun n_15 => onCons r fun u r => onIntK IntKind.i64 u fun n_16 => onCons r fun u r => onIntK IntKind.i64 u fun n_17 => onCons r fun u r => onIntK IntKind.i64 u fun n_18 => onCons r fun u r => onIntK IntKind.i64 u fun n_19 => onCons r fun u r => onIntK IntKind.i64 u fun n_20 => onCons r fun u r => onIntK IntKind.i64 u fun n_21 => onCons r fun u r => onIntK IntKind.i64 u fun n_22 => onCons r fun u r => onIntK IntKind.i64 u fun n_23 => onCons r fun u r => onIntK IntKind.i64 u fun n_24 => onCons r fun u r => onIntK IntKind.i64 u fun n_25 => onCons r fun u r => onIntK IntKind.i64 u fun n_26 => onCons r fun u r => onIntK IntKind.i64 u fun n_27 => onCons r fun u r => onIntK IntKind.i64 u fun n_28 => onCons r fun u r => onIntK IntKind.i64 u fun n_29 => onCons r fun u r => onIntK IntKind.i64 u fun n_30 => onCons r fun u r => onIntK IntKind.i64 u fun n_31 => onCons r fun u r => onIntK IntKind.i64 u fun n_32 => onCons r fun u r => onIntK IntKind.i64 u fun n_33 => onCons r fun u r => onIntK IntKind.i64 u fun n_34 => onCons r fun u r => onIntK IntKind.i64 u fun n_35 => onCons r fun u r => onIntK IntKind.i64 u fun n_36 => onCons r fun u r => onIntK IntKind.i64 u fun n_37 => onCons r fun u r => onIntK IntKind.i64 u fun n_38 => onCons r fun u r => onIntK IntKind.i64 u fun n_39 => onCons r fun u r => onIntK IntKind.i64 u fun n_40 => onCons r fun u r => onIntK IntKind.i64 u fun n_41 => onCons r fun u r => onIntK IntKind.i64 u fun n_42 => onCons r fun u r => onIntK IntKind.i64 u fun n_43 => onCons r fun u r => onIntK IntKind.i64 u fun n_44 => onCons r fun u r => onIntK IntKind.i64 u fun n_45 => onCons r fun u r => onIntK IntKind.i64 u fun n_46 => onCons r fun u r => onIntK IntKind.i64 u fun n_47 => onCons r fun u r => onIntK IntKind.i64 u fun n_48 => onCons r fun u r => onIntK IntKind.i64 u fun n_49 => onCons r fun u r => onIntK IntKind.i64 u fun n_50 => onCons r fun u r => onIntK IntKind.i64 u fun n_51 => onCons r fun u r => onIntK IntKind.i64 u fun n_52 => onCons r fun u r => onIntK IntKind.i64 u fun n_53 => onCons r fun u r => onIntK IntKind.i64 u fun n_54 => onCons r fun u r => onIntK IntKind.i64 u fun n_55 => onCons r fun u r => onIntK IntKind.i64 u fun n_56 => onCons r fun u r => onIntK IntKind.i64 u fun n_57 => onCons r fun u r => onIntK IntKind.i64 u fun n_58 => onCons r fun u r => onIntK IntKind.i64 u fun n_59 => onCons r fun u r => onIntK IntKind.i64 u fun n_60 => onCons r fun u r => onIntK IntKind.i64 u fun n_61 => onCons r fun u r => onIntK IntKind.i64 u fun n_62 => onCons r fun u r => onIntK IntKind.i64 u fun n_63 => onCons r fun u r => onIntK IntKind.i64 u fun n_64 => onCons r fun u r => onIntK IntKind.i64 u fun n_65 => onCons r fun u r => onIntK IntKind.i64 u fun n_66 => onCons r fun u r => onIntK IntKind.i64 u fun n_67 => onCons r fun u r => onIntK IntKind.i64 u fun n_68 => onCons r fun u r => onIntK IntKind.i64 u fun n_69 => onCons r fun u r => onIntK IntKind.i64 u fun n_70 => onCons r fun u r => onIntK IntKind.i64 u fun n_71 => onCons r fun u r => onIntK IntKind.i64 u fun n_72 => onCons r fun u r => onIntK IntKind.i64 u fun n_73 => onCons r fun u r => onIntK IntKind.i64 u fun n_74 => onCons r fun u r => onIntK IntKind.i64 u fun n_75 => onCons r fun u r => onIntK IntKind.i64 u fun n_76 => onCons r fun u r => onIntK IntKind.i64 u fun n_77 => onCons r fun u r => onIntK IntKind.i64 u fun n_78 => onCons r fun u r => onIntK IntKind.i64 u fun n_79 => onCons r fun u r => onIntK IntKind.i64 u fun n_80 => onCons r fun u r => onIntK IntKind.i64 u fun n_81 => onCons r fun u r => onIntK IntKind.i64 u fun n_82 => onCons r fun u r => onIntK IntKind.i64 u fun n_83 => onCons r fun u r => onIntK IntKind.i64 u fun n_84 => onCons r fun u r => onIntK IntKind.i64 u fun n_85 => onCons r fun u r => onIntK IntKind.i64 u fun n_86 => onCons r fun u r => onIntK IntKind.i64 u fun n_87 => onCons r fun u r => onIntK IntKind.i64 u fun n_88 => onCons r fun u r => onIntK IntKind.i64 u fun n_89 => onCons r fun u r => onIntK IntKind.i64 u fun n_90 => onCons r fun u r => onIntK IntKind.i64 u fun n_91 => onCons r fun u r => onIntK IntKind.i64 u fun n_92 => onCons r fun u r => onIntK IntKind.i64 u fun n_93 => onCons r fun u r => onIntK IntKind.i64 u fun n_94 => onCons r fun u r => onIntK IntKind.i64 u fun n_95 => onCons r fun u r => onIntK IntKind.i64 u fun n_96 => onCons r fun u r => onIntK IntKind.i64 u fun n_97 => onCons r fun u r => onIntK IntKind.i64 u fun n_98 => onCons r fun u r => onIntK IntKind.i64 u fun n_99 => onCons r fun u r => onIntK IntKind.i64 u fun n_100 => onCons r fun u r => onIntK IntKind.i64 u fun n_101 => onCons r fun u r => onIntK IntKind.i64 u fun n_102 => onCons r fun u r => onIntK IntKind.i64 u fun n_103 => onCons r fun u r => onIntK IntKind.i64 u fun n_104 => onCons r fun u r => onIntK IntKind.i64 u fun n_105 => onCons r fun u r => onIntK IntKind.i64 u fun n_106 => onCons r fun u r => onIntK IntKind.i64 u fun n_107 => R (V.agg [iv n, iv n_1, iv n_2, iv n_3, iv n_4, iv n_5, iv n_6, iv n_7, iv n_8, iv n_9, iv n_10, iv n_11, iv n_12, iv n_13, iv n_14, iv n_15, iv n_16, iv n_17, iv n_18, iv n_19, iv n_20, iv n_21, iv n_22, iv n_23, iv n_24, iv n_25, iv n_26, iv n_27, iv n_28, iv n_29, iv n_30, iv n_31, iv n_32, iv n_33, iv n_34, iv n_35, iv n_36, iv n_37, iv n_38, iv n_39, iv n_40, iv n_41, iv n_42, iv n_43, iv n_44, iv n_45, iv n_46, iv n_47, iv n_48, iv n_49, iv n_50, iv n_51, iv n_52, iv n_53, iv n_54, iv n_55, iv n_56, iv n_57, iv n_58, iv n_59, iv n_60, iv n_61, iv n_62, iv n_63, iv n_64, iv n_65, iv n_66, iv n_67, iv n_68, iv n_69, iv n_70, iv n_71, iv n_72, iv n_73, iv n_74, iv n_75, iv n_76, iv n_77, iv n_78, iv n_79, iv n_80, iv n_81, iv n_82, iv n_83, iv n_84, iv n_85, iv n_86, iv n_87, iv n_88, iv n_89, iv n_90, iv n_91, iv n_92, iv n_93, iv n_94, iv n_95, iv n_96, iv n_97, iv n_98, iv n_99, iv n_100, iv n_101, iv n_102, iv n_103, iv n_104, iv n_105, iv n_106, iv n_107]))) (by kernel_rfl) ?_
  refine ifB_mk (fun hb => ?_) (fun hb => by simp at hb; omega)
  have hR := Rk_bd hk5
  refine need_mk ⟨hk5, onSome_mk (x := iv (Rk k)) ?_ (onIntK_iv ?_)⟩
  · have : k = 0 ∨ k = 1 ∨ k = 2 ∨ k = 3 ∨ k = 4 := by omega
    rcases this with h | h | h | h | h <;> subst h <;> rfl
  generalize hr : Rk k = r at hR
  rw [show IntKind.i64.wrap (0 - r) = -r by rw [wr (by omega) (by omega)]; omega]
  refine Lp.of (σ := Int × Int × List V) (fun s => ⟨mkT [(0, .ptr 0 0 0), (1, .ptr 1 0 0), (2, iv s.2.1), (4, iv r), (5, iv s.1), (7, .agg [iv 1, iv 5, iv 13, iv 17, iv 25]), (8, iv (k : Int))], ⟨[(0, .rows 108 false [zrow]), (1, .rows 108 true [s.2.2])], 2⟩⟩) (fun s => ∃ i : Nat, i ≤ 2 * r.toNat + 1 ∧ s.1 = -r + (i : Int) ∧ s.2.1 = ((FR k ++ FP r i).length : Int) ∧ s.2.2 = Proofs.Ytahoindkdkhpmaa.tb (FR k ++ FP r i)) (fun s => (r + 1 - s.1).toNat) (-r, n, tb) (by kernel_rfl) ⟨0, by omega, by simp, by simpa [FP] using hn, by simpa [FP] using htb⟩ ?_
  clear hn htb
  rintro ⟨p, n, tb'⟩ ⟨i, hi, hp, hn, htb⟩ J1 hJ1
  simp only at hp hn htb
  obtain ⟨tb, htb'⟩ : ∃ tb, tb = tb' := ⟨_, rfl⟩
  subst htb'
  refine see (p := ifB (decide (p ≤ r)) (Lp (kp48 4) (W Try.prog CN 54 kp48 4 (cdAt [1, 1, 1, 0, 1, 0, 0, 1, 1, 0, 0, 1, 1, 0, 0, 1, 0, 0, 1, 0, 0] (bodyOf Try.f48))) (Qblk 4 (Qblk 3 (Qseq (W Try.prog CN 54 kp48 2 (cdAt [1, 1, 1, 0, 1, 0, 0, 1, 1, 0, 0, 1, 1, 0, 0, 1, 1] (bodyOf Try.f48))) (Qlp (kp48 2) J1 (Qblk 2 (Qblk 1 (Qseq (W Try.prog CN 54 kp48 0 (cdAt [1, 1, 1, 0, 1, 0, 0, 1, 1, 1] (bodyOf Try.f48))) (Qlp (kp48 0) J (Qblk 0 (Qseq (W Try.prog CN 54 kp48 0 (cdAt [1, 1, 1, 1] (bodyOf Try.f48))) (Qend0 Try.prog Try.f48 R))))))))))) (St.mk (mkT [(0, V.ptr 0 0 0), (1, V.ptr 1 0 0), (2, iv n), (4, iv r), (5, iv p), (6, iv (IntKind.i64.wrap ((0 : Int) - r))), (7, V.agg [iv (1 : Int), iv (5 : Int), iv (13 : Int), iv (17 : Int), iv (25 : Int)]), (8, iv (↑k : Int))]) (Hp.mk [(0, O.rows 108 false [zrow]), (1, O.rows 108 true [tb])] 2))) (J (St.mk (mkT [(0, V.ptr 0 0 0), (1, V.ptr 1 0 0), (2, iv n), (7, V.agg [iv (1 : Int), iv (5 : Int), iv (13 : Int), iv (17 : Int), iv (25 : Int)]), (8, iv (IntKind.i64.wrap ((↑k : Int) + (1 : Int))))]) (Hp.mk [(0, O.rows 108 false [zrow]), (1, O.rows 108 true [tb])] 2)))) (by kernel_rfl) ?_
  refine ifB_mk (fun hb => ?_) (fun hb => ?_)
  rotate_left
  · have hi' : i = 2 * r.toNat + 1 := by simp at hb; omega
    subst hi'
    rw [wr (by omega) (by omega)]
    exact hJ (k + 1, n, tb) ⟨by simp only; omega, by simp only; rw [FR_succ, hr]; exact hn, by simp only; rw [FR_succ, hr]; exact htb⟩ (by simp only; omega)
  have hi' : i < 2 * r.toNat + 1 := by simp at hb; omega
  rw [show IntKind.i64.wrap (0 - r) = -r by rw [wr (by omega) (by omega)]; omega]
  refine Lp.of (σ := Int × Int × List V) (fun s => ⟨mkT [(0, .ptr 0 0 0), (1, .ptr 1 0 0), (2, iv s.2.1), (4, iv r), (5, iv p), (6, iv s.1), (7, .agg [iv 1, iv 5, iv 13, iv 17, iv 25]), (8, iv (k : Int))], ⟨[(0, .rows 108 false [zrow]), (1, .rows 108 true [s.2.2])], 2⟩⟩) (fun s => ∃ j : Nat, j ≤ 2 * r.toNat + 1 ∧ s.1 = -r + (j : Int) ∧ s.2.1 = ((FR k ++ FP r i ++ FQ r p j).length : Int) ∧ s.2.2 = Proofs.Ytahoindkdkhpmaa.tb (FR k ++ FP r i ++ FQ r p j)) (fun s => (r + 1 - s.1).toNat) (-r, n, tb) (by kernel_rfl) ⟨0, by omega, by simp, by simpa [FQ] using hn, by simpa [FQ] using htb⟩ ?_
  clear hn htb
  rintro ⟨q, n, tb'⟩ ⟨j, hj, hq, hn, htb⟩ J2 hJ2
  simp only at hq hn htb
  obtain ⟨tb, htb'⟩ : ∃ tb, tb = tb' := ⟨_, rfl⟩
  subst htb'
  refine see (p := ifB (decide (q ≤ r)) (ifB (IntKind.i64.wrap (IntKind.i64.wrap (p * p) + IntKind.i64.wrap (q * q)) == IntKind.i64.wrap (r * r)) (K0 Try.prog 78 [V.lst 1 [[iv p], [iv q], [iv r]]] fun v => onIntK IntKind.i64 v fun n_1 => ifB (n_1 == (1 : Int)) (onNat n fun m => need (m < 36) (guardB ((0 + m * 3 + 3).ble tb.length) (J2 (St.mk (mkT [(0, V.ptr 0 0 0), (1, V.ptr 1 0 0), (2, iv (IntKind.i64.wrap (n + (1 : Int)))), (4, iv r), (5, iv p), (6, iv (IntKind.i64.wrap (q + (1 : Int)))), (7, V.agg [iv (1 : Int), iv (5 : Int), iv (13 : Int), iv (17 : Int), iv (25 : Int)]), (8, iv (↑k : Int))]) (Hp.mk [(0, O.rows 108 false [zrow]), (1, O.rows 108 true [List.take (0 + m * 3) tb ++ [iv p, iv q, iv r] ++ List.drop (0 + m * 3 + 3) tb])] 2))))) (J2 (St.mk (mkT [(0, V.ptr 0 0 0), (1, V.ptr 1 0 0), (2, iv n), (4, iv r), (5, iv p), (6, iv (IntKind.i64.wrap (q + (1 : Int)))), (7, V.agg [iv (1 : Int), iv (5 : Int), iv (13 : Int), iv (17 : Int), iv (25 : Int)]), (8, iv (↑k : Int))]) (Hp.mk [(0, O.rows 108 false [zrow]), (1, O.rows 108 true [tb])] 2)))) (J2 (St.mk (mkT [(0, V.ptr 0 0 0), (1, V.ptr 1 0 0), (2, iv n), (4, iv r), (5, iv p), (6, iv (IntKind.i64.wrap (q + (1 : Int)))), (7, V.agg [iv (1 : Int), iv (5 : Int), iv (13 : Int), iv (17 : Int), iv (25 : Int)]), (8, iv (↑k : Int))]) (Hp.mk [(0, O.rows 108 false [zrow]), (1, O.rows 108 true [tb])] 2)))) (J1 (St.mk (mkT [(0, V.ptr 0 0 0), (1, V.ptr 1 0 0), (2, iv n), (4, iv r), (5, iv (IntKind.i64.wrap (p + (1 : Int)))), (7, V.agg [iv (1 : Int), iv (5 : Int), iv (13 : Int), iv (17 : Int), iv (25 : Int)]), (8, iv (↑k : Int))]) (Hp.mk [(0, O.rows 108 false [zrow]), (1, O.rows 108 true [tb])] 2)))) (by kernel_rfl) ?_
  have hFQ : FQ r p (j + 1) = FQ r p j ++ (if okT r p q = true then [(p, q, r)] else []) := by rw [FQ_succ, ← hq]
  have w1 : IntKind.i64.wrap (p * p) = p * p := (Bd.mul (A := 25) (B := 25) ⟨by omega, by omega⟩ ⟨by omega, by omega⟩).wr
  refine ifB_mk (fun hb => ?_) (fun hb => ?_)
  rotate_left
  · have hj' : j = 2 * r.toNat + 1 := by simp at hb; omega
    subst hj'
    rw [wr (by omega) (by omega)]
    exact hJ1 (p + 1, n, tb) ⟨i + 1, by omega, by simp only; omega, by simp only; rw [FP_succ, ← hp, ← List.append_assoc]; exact hn, by simp only; rw [FP_succ, ← hp, ← List.append_assoc]; exact htb⟩ (by simp only; omega)
  have hj' : j < 2 * r.toNat + 1 := by simp at hb; omega
  have bp : Bd 25 p := ⟨by omega, by omega⟩
  have bq : Bd 25 q := ⟨by omega, by omega⟩
  have br : Bd 25 r := ⟨by omega, by omega⟩
  rw [w1, (bq.mul bq).wr, (br.mul br).wr, ((bp.mul bp).add (bq.mul bq)).wr]
  have hnext : okT r p q = false → J2 ⟨mkT [(0, .ptr 0 0 0), (1, .ptr 1 0 0), (2, iv n), (4, iv r), (5, iv p), (6, iv (IntKind.i64.wrap (q + 1))), (7, .agg [iv 1, iv 5, iv 13, iv 17, iv 25]), (8, iv (k : Int))], ⟨[(0, .rows 108 false [zrow]), (1, .rows 108 true [tb])], 2⟩⟩ := fun hk => by
    rw [wr (by omega) (by omega)]
    exact hJ2 (q + 1, n, tb) ⟨j + 1, by omega, by simp only; omega, by simp only; rw [hFQ, hk]; simpa using hn, by simp only; rw [hFQ, hk]; simpa using htb⟩ (by simp only; omega)
  refine ifB_mk (fun hb2 => ?_) (fun hb2 => hnext (okT_no1 hb2))
  refine divisor78 (l := [p, q, r]) (fun n hn => ?_) (by simp) (onIntK_iv (ifB_mk (fun hb3 => ?_) (fun hb3 => hnext (okT_no2 hb3))))
  · simp at hn
    rcases hn with rfl | rfl | rfl
    · exact bp.le (by decide)
    · exact bq.le (by decide)
    · exact br.le (by decide)
  have hok : okT r p q = true := by
    have h2 : p * p + q * q = r * r := by simpa using hb2
    have h3 : ((gcdl [p, q, r] : Nat) : Int) = 1 := by simpa using hb3
    unfold okT
    rw [Bool.and_eq_true, decide_eq_true_iff, decide_eq_true_iff]
    exact ⟨h2, by omega⟩
  rw [hok, if_pos rfl] at hFQ
  have hle := FQ_le (k := k) (i := i) (j := j + 1) hk5 (by rw [hr]; omega) (by rw [hr]; omega)
  rw [hr, ← hp, hFQ, List.length_append, List.length_singleton] at hle
  simp only [List.length_append, Int.natCast_add] at hn
  have hn' : n = (((FR k ++ FP r i ++ FQ r p j).length : Nat) : Int) := by simp only [List.length_append, Int.natCast_add]; exact hn
  have hlt : (FR k ++ FP r i ++ FQ r p j).length < 36 := by simp only [List.length_append]; omega
  have hcl := cl_length (FR k ++ FP r i ++ FQ r p j)
  have htl : tb.length = 108 := by rw [htb]; unfold Proofs.Ytahoindkdkhpmaa.tb; rw [List.length_append, hcl, List.length_replicate]; omega
  refine onNat_mk hn' (need_mk ⟨hlt, guardB_mk (Nat.ble_eq_true_of_le (by rw [htl]; omega)) ?_⟩)
  rw [htb, show [iv p, iv q, iv r] = [iv (p, q, r).1, iv (p, q, r).2.1, iv (p, q, r).2.2] from rfl, tb_store rfl hlt (p, q, r)]
  rw [show IntKind.i64.wrap (n + 1) = n + 1 by rw [wr (by omega) (by omega)], show IntKind.i64.wrap (q + 1) = q + 1 by rw [wr (by omega) (by omega)]]
  exact hJ2 (q + 1, n + 1, Proofs.Ytahoindkdkhpmaa.tb (FR k ++ FP r i ++ FQ r p j ++ [(p, q, r)])) ⟨j + 1, by omega, by simp only; omega, by simp only; rw [hFQ, ← List.append_assoc, List.length_append, Int.natCast_add, ← hn']; rfl, by simp only; rw [hFQ, ← List.append_assoc]⟩ (by simp only; omega)
theorem knows48 : ∀ g r, knH g = some r → K0G Try.prog (fun _ => none) g [] fun v => v = r := by
  intro g r h
  unfold knH at h
  split at h
  · simp at h; subst h; exact angles48 rfl
  · cases h
theorem hC : CC.ok Try.prog := callsM_ok knows48
end Go.Proofs.Ytahoindkdkhpmaa
