/- Clusters. -/
import Derived.Test.YtmdimnmdoifkfaaXDTA
namespace Go.Proofs.Ytmdimnmdoifkfaa
open Go Go.Proofs.Ytmdimnmdoifkfaa.Clean
set_option linter.unusedVariables false
set_option linter.unusedSimpArgs false
set_option maxRecDepth 10000

def cl1 (S : Int) : Fd → List Fd → List Fd × List Fd
  | _, [] => ([], [])
  | x, y :: r => if y.1 - x.1 ≤ 2 * S + 1 then (y :: (cl1 S y r).1, (cl1 S y r).2) else ([], y :: r)
def cluN (S : Int) : Nat → List Fd → List (List Fd)
  | 0, _ => []
  | _ + 1, [] => []
  | n + 1, x :: r => (x :: (cl1 S x r).1) :: cluN S n (cl1 S x r).2
/-- The clusters of parts. -/
def clu (S : Int) (l : List Fd) : List (List Fd) := cluN S l.length l
theorem cl1_app (S : Int) : ∀ (r : List Fd) (x : Fd), (cl1 S x r).1 ++ (cl1 S x r).2 = r
  | [], x => rfl
  | y :: r, x => by
    unfold cl1
    split
    · simp only [List.cons_append, cl1_app S r y]
    · rfl
theorem cl1_len (S : Int) (r : List Fd) (x : Fd) : (cl1 S x r).2.length ≤ r.length := by
  have := congrArg List.length (cl1_app S r x)
  simp only [List.length_append] at this
  omega
theorem cluN_eq (S : Int) : ∀ (n m : Nat) (l : List Fd), l.length ≤ n → l.length ≤ m → cluN S n l = cluN S m l
  | 0, m, l, h, _ => by
    rw [List.eq_nil_of_length_eq_zero (Nat.le_zero.1 h)]
    cases m <;> rfl
  | n + 1, 0, l, _, h => by
    rw [List.eq_nil_of_length_eq_zero (Nat.le_zero.1 h)]
    rfl
  | n + 1, m + 1, [], _, _ => rfl
  | n + 1, m + 1, x :: r, h, h' => by
    simp only [List.length_cons] at h h'
    have := cl1_len S r x
    simp only [cluN]
    rw [cluN_eq S n m _ (by omega) (by omega)]
theorem clu_nil (S : Int) : clu S [] = [] := rfl
theorem clu_cons (S : Int) (x : Fd) (r : List Fd) : clu S (x :: r) = (x :: (cl1 S x r).1) :: clu S (cl1 S x r).2 := by
  show (x :: (cl1 S x r).1) :: cluN S r.length (cl1 S x r).2 = _
  rw [clu, cluN_eq S r.length (cl1 S x r).2.length _ (cl1_len S r x) (Nat.le_refl _)]
/-- A part is in the cluster of the one before it. -/
def nearP (S : Int) (l : List Fd) (j : Nat) : Prop := (fd l j).1 - (fd l (j - 1)).1 ≤ 2 * S + 1
theorem cl1_take (S : Int) : ∀ (r : List Fd) (x : Fd) (m : Nat), 1 ≤ m → m ≤ r.length + 1 → (∀ j, 1 ≤ j → j < m → nearP S (x :: r) j) → (m = r.length + 1 ∨ ¬ nearP S (x :: r) m) →
    x :: (cl1 S x r).1 = (x :: r).take m ∧ (cl1 S x r).2 = (x :: r).drop m
  | [], x, m, h1, h2, _, _ => by
    have : m = 1 := by simp at h2; omega
    subst this
    exact ⟨rfl, rfl⟩
  | y :: r, x, m, h1, h2, h3, h4 => by
    have e1 : nearP S (x :: y :: r) 1 ↔ y.1 - x.1 ≤ 2 * S + 1 := Iff.rfl
    unfold cl1
    by_cases hn : y.1 - x.1 ≤ 2 * S + 1
    · rw [if_pos hn]
      obtain ⟨k, rfl⟩ : ∃ k, m = k + 1 := ⟨m - 1, by omega⟩
      have hk : 1 ≤ k := by
        rcases Nat.eq_zero_or_pos k with h0 | h0
        · subst h0
          rcases h4 with h4 | h4
          · simp at h4
          · exact (h4 (e1.2 hn)).elim
        · exact h0
      have sh : ∀ j, 1 ≤ j → (nearP S (y :: r) j ↔ nearP S (x :: y :: r) (j + 1)) := fun j hj => by
        obtain ⟨i, rfl⟩ : ∃ i, j = i + 1 := ⟨j - 1, by omega⟩
        exact Iff.rfl
      have ih := cl1_take S r y k hk (by simp at h2; omega) (fun j a b => (sh j a).2 (h3 (j + 1) (by omega) (by omega))) (by
        rcases h4 with h4 | h4
        · exact .inl (by simp at h4; omega)
        · exact .inr (fun hh => h4 ((sh k hk).1 hh)))
      exact ⟨by simp only [List.take_succ_cons, ih.1], by simp only [List.drop_succ_cons, ih.2]⟩
    · rw [if_neg hn]
      have : m = 1 := by
        rcases Nat.lt_or_ge 1 m with h | h
        · exact (hn (e1.1 (h3 1 (Nat.le_refl _) h))).elim
        · omega
      subst this
      exact ⟨rfl, rfl⟩
/-- The fates of parts. -/
noncomputable def fatC (b : Bt) (c : List Fd) : List Ft := c.map fun x => fateF b x (sortF b c)
noncomputable def fates (b : Bt) (l : List Fd) : List Ft := (clu b.S l).flatMap (fatC b)
theorem fates_take {b : Bt} {r : List Fd} {m : Nat} (h1 : 1 ≤ m) (h2 : m ≤ r.length) (h3 : ∀ j, 1 ≤ j → j < m → nearP b.S r j) (h4 : m = r.length ∨ ¬ nearP b.S r m) : fates b r = fatC b (r.take m) ++ fates b (r.drop m) := by
  cases r with
  | nil => simp at h2; omega
  | cons x r =>
    obtain ⟨e1, e2⟩ := cl1_take b.S r x m h1 (by simpa using h2) h3 (by simpa using h4)
    rw [fates, clu_cons, List.flatMap_cons, e1, e2]
    rfl
theorem fdl_row {r : List Fd} {m : Nat} (h : m < r.length) : ∃ row, (fdl r)[m]? = some row ∧ row[0]? = some (iv (fd r m).1) := ⟨fdr (fd r m), by simp [fdl, fd_get h], rfl⟩
def lsF (F : List Ft) : V := match F with | [] => nilS | x :: t => .lst 3 (ftl (x :: t))
noncomputable def askE (b : Bt) (l : List Fd) : Int := if dc (BtP b) = true then fedE l else 90
noncomputable def sortT (b : Bt) (l : List Fd) : V := if dc (BtP b ∧ FdP l) = true then .tup [lsF (fates b l), iv 0] else .tup [nilS, iv (askE b l)]
theorem sorted59' {b : Bt} {c : List Fd} {cs : List (List V)} {R : V → Prop} (hcs : cs = fdl c) (hb : BtP b) (hc : c ≠ []) (hl : c.length ≤ 40) (h1 : ∀ x ∈ c, F1 x) (h : R (iv (sortF b c))) : K0G Try.prog glX 59 [.agg (bel b), .lst 3 cs] R := by subst hcs; exact sorted59 hb hc hl h1 h
theorem felc {l : List Fd} {cs : List (List V)} {i : Nat} {x : Fd} {k : Int → Int → Nat → List (List V) → Prop} (hcs : cs = fdl l) (h : l[i]? = some x) (hk : k x.1 x.2.1 1 (nl x.2.2)) : onSome cs[i]? fun row => onCons (List.drop 0 row) fun u r => onIntK IntKind.i64 u fun n => onCons r fun u r => onIntK IntKind.i64 u fun m => onCons r fun u r => onLst u fun s es => k n m s es := by subst hcs; exact fel h hk
theorem sub_fdl (r : List Fd) (m : Nat) : sub (fdl r) 0 (m - 0) = fdl (r.take m) := by simp [sub, fdl, List.map_take]
theorem sub_fdl' (r : List Fd) (m : Nat) : sub (fdl r) m ((fdl r).length - m) = fdl (r.drop m) := by
  rw [sub, List.take_of_length_le (by simp), fdl, ← List.map_drop]
  rfl
theorem ftl_take (l : List Ft) : List.take l.length (ftl l) = ftl l := by rw [← ftl_length]; exact List.take_length
theorem sh22_b {b : Bt} {l : List Fd} {n n' : Int} {r : List Fd} {F : List Ft} (h : F ≠ []) : sh22 b l n n' (r, F) = st22 (mB b n n' (rec22 b l n n') (fdl r) F) := by cases F with | nil => exact (h rfl).elim | cons x t => rfl
theorem shA_b {b : Bt} {l : List Fd} {n n' g : Int} {r c : List (List V)} {E : List Ft} {k : Nat} (h : E ≠ []) : shA b l n n' g r c (E, k) = st22c g c k (mA1 b n n' (rec22b b l n n') r E) := by cases E with | nil => exact (h rfl).elim | cons x t => rfl
theorem shB_b {b : Bt} {l : List Fd} {n n' g : Int} {r c : List (List V)} {F E : List Ft} {k : Nat} (h : 0 < k) : shB b l n n' g r c F (E, k) = st22c g c k (mB1 b n n' (rec22b b l n n') r E) := by cases k with | zero => omega | succ k => rfl
end Go.Proofs.Ytmdimnmdoifkfaa
