/- The turns, walked: quarters about two axes, and the chain that a turn is. -/
import Derived.Test.YthilhofkjnipiaaDoorSpin
import Derived.Laws.Tables
namespace Go.Proofs.YthilhofkjnipiaaDoor
open Go.RowKit

def Kn (n : Nat) : Nat → Nat
  | 0 => 2
  | 1 => if n / 4 = 0 then 0 else 1
  | _ => if n / 4 < 4 then 0 else 2
def Tn (n : Nat) : Nat → Nat
  | 0 => n % 4
  | 1 => if n / 4 < 4 then n / 4 else 1
  | _ => if n / 4 < 4 then 0 else if n / 4 = 4 then 1 else 3
theorem code_n (n : Nat) (_h : n < 24) (i : Nat) : Code (Kn n i) (Tn n i) := by
  unfold Code
  match i with
  | 0 => exact ⟨by simp [Tn]; omega, by simp [Kn]⟩
  | 1 =>
    simp only [Kn, Tn]
    split <;> split <;> omega
  | i + 2 =>
    simp only [Kn, Tn]
    split
    · omega
    · split <;> omega
def chainV (n : Nat) : Value := .agg #[fnV (Kn n 0), .int .i64 (Tn n 0), fnV (Kn n 1), .int .i64 (Tn n 1), fnV (Kn n 2), .int .i64 (Tn n 2)]
def turned (n : Nat) (c : Cell) : Cell := afterK (Kn n) (Tn n) c 3

/-- The table of the sides, laid out. -/
def sidesV : Array Value := #[.nilFunc, .int .i64 0, .nilFunc, .int .i64 0, .func (.func 52) #[] #[], .int .i64 1, .nilFunc, .int .i64 0, .func (.func 52) #[] #[], .int .i64 2, .nilFunc, .int .i64 0, .func (.func 52) #[] #[], .int .i64 3, .nilFunc, .int .i64 0, .func (.func 52) #[] #[], .int .i64 1, .func (.func 53) #[] #[], .int .i64 1, .func (.func 52) #[] #[], .int .i64 1, .func (.func 53) #[] #[], .int .i64 3]
abbrev z6 : Array Value := #[.nilFunc, .int .i64 0, .nilFunc, .int .i64 0, .nilFunc, .int .i64 0]
abbrev z24 : Array Value := #[.nilFunc, .int .i64 0, .nilFunc, .int .i64 0, .nilFunc, .int .i64 0, .nilFunc, .int .i64 0, .nilFunc, .int .i64 0, .nilFunc, .int .i64 0, .nilFunc, .int .i64 0, .nilFunc, .int .i64 0, .nilFunc, .int .i64 0, .nilFunc, .int .i64 0, .nilFunc, .int .i64 0, .nilFunc, .int .i64 0]
theorem sides_laid (w : World) : ∃ W1 : World, ((w.alloc (.cells z6 69)).alloc (.cells z24 96)).setRow (w.heap.size + 1) sidesV = W1 ∧ Blk W1 w.heap.size 69 z6 ∧ Blk W1 (w.heap.size + 1) 96 sidesV ∧ W1.heap.size = w.heap.size + 1 + 1 ∧ Below w.heap.size w W1 := by
  have b0 : Blk ((w.alloc (.cells z6 69)).alloc (.cells z24 96)) w.heap.size 69 z6 := (Blk.at_ _ _ _ _ rfl).alloc _
  have b1 : Blk ((w.alloc (.cells z6 69)).alloc (.cells z24 96)) (w.heap.size + 1) 96 z24 := Blk.at_ _ _ _ _ (by simp)
  have hb : Below w.heap.size w ((w.alloc (.cells z6 69)).alloc (.cells z24 96)) := ((Below.refl _ _).alloc (Nat.le_refl _) _).alloc (by simp) _
  have hs : ((w.alloc (.cells z6 69)).alloc (.cells z24 96)).heap.size = w.heap.size + 1 + 1 := by simp
  generalize (w.alloc (.cells z6 69)).alloc (.cells z24 96) = W at *
  refine ⟨_, rfl, ?_, ?_, ?_, ?_⟩
  · unfold Blk at b0 ⊢
    simp [World.setRow, Array.getElem?_modify, b0]
  · unfold Blk at b1 ⊢
    simp [World.setRow, Array.getElem?_modify, b1]
  · simp [World.setRow, hs]
  · refine hb.trans ⟨rfl, rfl, rfl, by simp [World.setRow], fun k hk => ?_⟩
    simp only [World.setRow, Array.getElem?_modify]
    rw [if_neg (by omega)]


theorem store_sides {ops : Array Oper} {rest : List Oper} {o : Oper} {a : Act} {w : World} {Q : Exit → Act → World → Prop} (hgd : o.guard = none) (ty : TypeId) (x y : Operand) (ho : o.op = .store ty x y) (hty : ty = 96)
    (h : ∀ W1, Blk W1 w.heap.size 69 z6 → Blk W1 (w.heap.size + 1) 96 sidesV → W1.heap.size = w.heap.size + 1 + 1 → Below w.heap.size w W1 → wpList Tryd.prog ops Q rest (a.put o.dst undef) W1)
    (hx : a.eval x = .pointer (some ⟨w.heap.size + 1, 0, none⟩)) (hy : a.eval y = .agg sidesV) :
    wpList Tryd.prog ops Q (o :: rest) a ((w.alloc (.cells z6 69)).alloc (.cells z24 96)) := by
  subst hty
  obtain ⟨W1, hW1, b0, b1, hs, hbw⟩ := sides_laid w
  refine wpList_store_row hgd 96 x y ho (w.heap.size + 1) sidesV hx hy 96 z24 (Blk.at_ _ _ _ _ (by simp)) (by kernel_rfl) (by rfl) (by kernel_rfl) ?_
  rw [hW1]
  exact h W1 b0 b1 hs hbw

theorem chain_ret (w W1 : World) (a b c d e f : Value) (tmps : Array Value) (hp : tmps.getD 2 undef = .pointer (some ⟨w.heap.size, 0, none⟩)) (hg : W1.heap[w.heap.size]? = some (.cells #[a, b, c, d, e, f] 69 (0, 0))) :
    (results Tryd.f26 tmps).run Tryd.prog W1 = .ok (.agg #[a, b, c, d, e, f]) W1 :=
  results_cell_row Tryd.results26 tmps W1 _ _ _ _ _ hp hg Tryd.underlying69 rfl (by kernel_rfl)

theorem chainV_0 (n : Int) (h0 : 0 ≤ n) {V : Value} (hV : chainV n.toNat = V) (h : n / 4 = 0) : V = .agg #[.func (.func 53) #[] #[], .int .i64 (n % 4), .nilFunc, .int .i64 0, .nilFunc, .int .i64 0] := by
  have e : n.toNat / 4 = 0 := by omega
  have e2 : ((n.toNat % 4 : Nat) : Int) = n % 4 := by omega
  rw [← hV, ← e2]
  simp [chainV, Kn, Tn, e, fnV]
theorem chainV_1 (n : Int) (h0 : 0 ≤ n) {V : Value} (hV : chainV n.toNat = V) (h : n / 4 = 1) : V = .agg #[.func (.func 53) #[] #[], .int .i64 (n % 4), .func (.func 52) #[] #[], .int .i64 1, .nilFunc, .int .i64 0] := by
  have e : n.toNat / 4 = 1 := by omega
  have e2 : ((n.toNat % 4 : Nat) : Int) = n % 4 := by omega
  rw [← hV, ← e2]
  simp [chainV, Kn, Tn, e, fnV]
theorem chainV_2 (n : Int) (h0 : 0 ≤ n) {V : Value} (hV : chainV n.toNat = V) (h : n / 4 = 2) : V = .agg #[.func (.func 53) #[] #[], .int .i64 (n % 4), .func (.func 52) #[] #[], .int .i64 2, .nilFunc, .int .i64 0] := by
  have e : n.toNat / 4 = 2 := by omega
  have e2 : ((n.toNat % 4 : Nat) : Int) = n % 4 := by omega
  rw [← hV, ← e2]
  simp [chainV, Kn, Tn, e, fnV]
theorem chainV_3 (n : Int) (h0 : 0 ≤ n) {V : Value} (hV : chainV n.toNat = V) (h : n / 4 = 3) : V = .agg #[.func (.func 53) #[] #[], .int .i64 (n % 4), .func (.func 52) #[] #[], .int .i64 3, .nilFunc, .int .i64 0] := by
  have e : n.toNat / 4 = 3 := by omega
  have e2 : ((n.toNat % 4 : Nat) : Int) = n % 4 := by omega
  rw [← hV, ← e2]
  simp [chainV, Kn, Tn, e, fnV]
theorem chainV_4 (n : Int) (h0 : 0 ≤ n) {V : Value} (hV : chainV n.toNat = V) (h : n / 4 = 4) : V = .agg #[.func (.func 53) #[] #[], .int .i64 (n % 4), .func (.func 52) #[] #[], .int .i64 1, .func (.func 53) #[] #[], .int .i64 1] := by
  have e : n.toNat / 4 = 4 := by omega
  have e2 : ((n.toNat % 4 : Nat) : Int) = n % 4 := by omega
  rw [← hV, ← e2]
  simp [chainV, Kn, Tn, e, fnV]
theorem chainV_5 (n : Int) (h0 : 0 ≤ n) {V : Value} (hV : chainV n.toNat = V) (h : n / 4 = 5) : V = .agg #[.func (.func 53) #[] #[], .int .i64 (n % 4), .func (.func 52) #[] #[], .int .i64 1, .func (.func 53) #[] #[], .int .i64 3] := by
  have e : n.toNat / 4 = 5 := by omega
  have e2 : ((n.toNat % 4 : Nat) : Int) = n % 4 := by omega
  rw [← hV, ← e2]
  simp [chainV, Kn, Tn, e, fnV]
set_option maxRecDepth 100000 in
set_option maxHeartbeats 2000000 in
theorem chainOf_any (n : Int) (w : World) (h0 : 0 ≤ n) (h1 : n < 24) : Calls Tryd.prog 26 #[.int .i64 n] w fun e w' => e = .returned (chainV n.toNat) ∧ Below w.heap.size w w' := by
  have hq : n / 4 = 0 ∨ n / 4 = 1 ∨ n / 4 = 2 ∨ n / 4 = 3 ∨ n / 4 = 4 ∨ n / 4 = 5 := by omega
  generalize hV : chainV n.toNat = V
  have HV := Lib.hid hV; clear hV
  go_enter Tryd.func26, Tryd.ntmps26
  go_wp2_with ((with_reducible refine store_sides rfl 96 (.tmp 3) (.tmp 18) rfl rfl ?_ ?s1 ?s2); intro W1 b0 b1 hs hbw; have cs : ∀ j, W1.cell? ⟨w.heap.size + 1, j, none⟩ = _ := b1.cell; simp only [sidesV] at cs; have fr : ∀ j, W1.frozen? ⟨w.heap.size, j, none⟩ = false := b0.frozen; have c0 : ∀ j, W1.cell? ⟨w.heap.size, j, none⟩ = _ := b0.cell; rcases hq with h | h | h | h | h | h)
  case s1 => rfl
  case s2 => rfl
  · have hfin : V = .agg #[.func (.func 53) #[] #[], .int .i64 (n % 4), .nilFunc, .int .i64 0, .nilFunc, .int .i64 0] := chainV_0 n h0 HV.out h
    exact bodyPost_ret (v := .agg #[.func (.func 53) #[] #[], .int .i64 (n % 4), .nilFunc, .int .i64 0, .nilFunc, .int .i64 0]) (chain_ret w _ _ _ _ _ _ _ _ rfl (((((((b0.set_ 0 (.func (.func 53) #[] #[])).set_ 1 (.int .i64 (n % 4))).set_ 2 (.nilFunc)).set_ 3 (.int .i64 0)).set_ 4 (.nilFunc)).set_ 5 (.int .i64 0)).alloc _)) rfl ⟨by rw [hfin], ((((((hbw.setCell (p := ⟨w.heap.size, _, none⟩) (Nat.le_refl _) _).setCell (p := ⟨w.heap.size, _, none⟩) (Nat.le_refl _) _).setCell (p := ⟨w.heap.size, _, none⟩) (Nat.le_refl _) _).setCell (p := ⟨w.heap.size, _, none⟩) (Nat.le_refl _) _).setCell (p := ⟨w.heap.size, _, none⟩) (Nat.le_refl _) _).setCell (p := ⟨w.heap.size, _, none⟩) (Nat.le_refl _) _).alloc (by simp; omega) _⟩
  · have hfin : V = .agg #[.func (.func 53) #[] #[], .int .i64 (n % 4), .func (.func 52) #[] #[], .int .i64 1, .nilFunc, .int .i64 0] := chainV_1 n h0 HV.out h
    exact bodyPost_ret (v := .agg #[.func (.func 53) #[] #[], .int .i64 (n % 4), .func (.func 52) #[] #[], .int .i64 1, .nilFunc, .int .i64 0]) (chain_ret w _ _ _ _ _ _ _ _ rfl (((((((b0.set_ 0 (.func (.func 53) #[] #[])).set_ 1 (.int .i64 (n % 4))).set_ 2 (.func (.func 52) #[] #[])).set_ 3 (.int .i64 1)).set_ 4 (.nilFunc)).set_ 5 (.int .i64 0)).alloc _)) rfl ⟨by rw [hfin], ((((((hbw.setCell (p := ⟨w.heap.size, _, none⟩) (Nat.le_refl _) _).setCell (p := ⟨w.heap.size, _, none⟩) (Nat.le_refl _) _).setCell (p := ⟨w.heap.size, _, none⟩) (Nat.le_refl _) _).setCell (p := ⟨w.heap.size, _, none⟩) (Nat.le_refl _) _).setCell (p := ⟨w.heap.size, _, none⟩) (Nat.le_refl _) _).setCell (p := ⟨w.heap.size, _, none⟩) (Nat.le_refl _) _).alloc (by simp; omega) _⟩
  · have hfin : V = .agg #[.func (.func 53) #[] #[], .int .i64 (n % 4), .func (.func 52) #[] #[], .int .i64 2, .nilFunc, .int .i64 0] := chainV_2 n h0 HV.out h
    exact bodyPost_ret (v := .agg #[.func (.func 53) #[] #[], .int .i64 (n % 4), .func (.func 52) #[] #[], .int .i64 2, .nilFunc, .int .i64 0]) (chain_ret w _ _ _ _ _ _ _ _ rfl (((((((b0.set_ 0 (.func (.func 53) #[] #[])).set_ 1 (.int .i64 (n % 4))).set_ 2 (.func (.func 52) #[] #[])).set_ 3 (.int .i64 2)).set_ 4 (.nilFunc)).set_ 5 (.int .i64 0)).alloc _)) rfl ⟨by rw [hfin], ((((((hbw.setCell (p := ⟨w.heap.size, _, none⟩) (Nat.le_refl _) _).setCell (p := ⟨w.heap.size, _, none⟩) (Nat.le_refl _) _).setCell (p := ⟨w.heap.size, _, none⟩) (Nat.le_refl _) _).setCell (p := ⟨w.heap.size, _, none⟩) (Nat.le_refl _) _).setCell (p := ⟨w.heap.size, _, none⟩) (Nat.le_refl _) _).setCell (p := ⟨w.heap.size, _, none⟩) (Nat.le_refl _) _).alloc (by simp; omega) _⟩
  · have hfin : V = .agg #[.func (.func 53) #[] #[], .int .i64 (n % 4), .func (.func 52) #[] #[], .int .i64 3, .nilFunc, .int .i64 0] := chainV_3 n h0 HV.out h
    exact bodyPost_ret (v := .agg #[.func (.func 53) #[] #[], .int .i64 (n % 4), .func (.func 52) #[] #[], .int .i64 3, .nilFunc, .int .i64 0]) (chain_ret w _ _ _ _ _ _ _ _ rfl (((((((b0.set_ 0 (.func (.func 53) #[] #[])).set_ 1 (.int .i64 (n % 4))).set_ 2 (.func (.func 52) #[] #[])).set_ 3 (.int .i64 3)).set_ 4 (.nilFunc)).set_ 5 (.int .i64 0)).alloc _)) rfl ⟨by rw [hfin], ((((((hbw.setCell (p := ⟨w.heap.size, _, none⟩) (Nat.le_refl _) _).setCell (p := ⟨w.heap.size, _, none⟩) (Nat.le_refl _) _).setCell (p := ⟨w.heap.size, _, none⟩) (Nat.le_refl _) _).setCell (p := ⟨w.heap.size, _, none⟩) (Nat.le_refl _) _).setCell (p := ⟨w.heap.size, _, none⟩) (Nat.le_refl _) _).setCell (p := ⟨w.heap.size, _, none⟩) (Nat.le_refl _) _).alloc (by simp; omega) _⟩
  · have hfin : V = .agg #[.func (.func 53) #[] #[], .int .i64 (n % 4), .func (.func 52) #[] #[], .int .i64 1, .func (.func 53) #[] #[], .int .i64 1] := chainV_4 n h0 HV.out h
    exact bodyPost_ret (v := .agg #[.func (.func 53) #[] #[], .int .i64 (n % 4), .func (.func 52) #[] #[], .int .i64 1, .func (.func 53) #[] #[], .int .i64 1]) (chain_ret w _ _ _ _ _ _ _ _ rfl (((((((b0.set_ 0 (.func (.func 53) #[] #[])).set_ 1 (.int .i64 (n % 4))).set_ 2 (.func (.func 52) #[] #[])).set_ 3 (.int .i64 1)).set_ 4 (.func (.func 53) #[] #[])).set_ 5 (.int .i64 1)).alloc _)) rfl ⟨by rw [hfin], ((((((hbw.setCell (p := ⟨w.heap.size, _, none⟩) (Nat.le_refl _) _).setCell (p := ⟨w.heap.size, _, none⟩) (Nat.le_refl _) _).setCell (p := ⟨w.heap.size, _, none⟩) (Nat.le_refl _) _).setCell (p := ⟨w.heap.size, _, none⟩) (Nat.le_refl _) _).setCell (p := ⟨w.heap.size, _, none⟩) (Nat.le_refl _) _).setCell (p := ⟨w.heap.size, _, none⟩) (Nat.le_refl _) _).alloc (by simp; omega) _⟩
  · have hfin : V = .agg #[.func (.func 53) #[] #[], .int .i64 (n % 4), .func (.func 52) #[] #[], .int .i64 1, .func (.func 53) #[] #[], .int .i64 3] := chainV_5 n h0 HV.out h
    exact bodyPost_ret (v := .agg #[.func (.func 53) #[] #[], .int .i64 (n % 4), .func (.func 52) #[] #[], .int .i64 1, .func (.func 53) #[] #[], .int .i64 3]) (chain_ret w _ _ _ _ _ _ _ _ rfl (((((((b0.set_ 0 (.func (.func 53) #[] #[])).set_ 1 (.int .i64 (n % 4))).set_ 2 (.func (.func 52) #[] #[])).set_ 3 (.int .i64 1)).set_ 4 (.func (.func 53) #[] #[])).set_ 5 (.int .i64 3)).alloc _)) rfl ⟨by rw [hfin], ((((((hbw.setCell (p := ⟨w.heap.size, _, none⟩) (Nat.le_refl _) _).setCell (p := ⟨w.heap.size, _, none⟩) (Nat.le_refl _) _).setCell (p := ⟨w.heap.size, _, none⟩) (Nat.le_refl _) _).setCell (p := ⟨w.heap.size, _, none⟩) (Nat.le_refl _) _).setCell (p := ⟨w.heap.size, _, none⟩) (Nat.le_refl _) _).setCell (p := ⟨w.heap.size, _, none⟩) (Nat.le_refl _) _).alloc (by simp; omega) _⟩

theorem cell_turned (n : Nat) (hn : n < 24) (c : Cell) (w : World) (hc : Bd c) :
    Calls Tryd.prog 27 #[chainV n, .agg #[.int .i64 c.1, .int .i64 c.2.1, .int .i64 c.2.2]] w fun e w' => e = .returned (.agg #[.int .i64 (turned n c).1, .int .i64 (turned n c).2.1, .int .i64 (turned n c).2.2]) ∧ Below w.heap.size w w' :=
  cell_any (Kn n) (Tn n) c w hc (fun i => code_n n hn i)
theorem turned_bd (n : Nat) (c : Cell) (h : Bd c) : Bd (turned n c) := afterK_bd _ _ c h 3
end Go.Proofs.YthilhofkjnipiaaDoor
