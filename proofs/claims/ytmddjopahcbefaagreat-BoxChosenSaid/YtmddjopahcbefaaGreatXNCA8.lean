/- Sets of up to eight, as bits. -/
import Derived.Test.YtmddjopahcbefaaGreatXNC8R
namespace Go.Proofs.YtmddjopahcbefaaGreat
open Go Go.Proofs.YtmddjopahcbefaaGreat.Clean
set_option linter.unusedVariables false
set_option linter.unusedSimpArgs false
set_option maxRecDepth 10000

theorem hcM : cfM.ok Tryz.prog := cfgM_ok
theorem ifB_t {b : Bool} {p q : Prop} (hb : b = true) (h : p) : ifB b p q := by subst hb; exact h
theorem ifB_f {b : Bool} {p q : Prop} (hb : b = false) (h : q) : ifB b p q := by subst hb; exact h
theorem onIntK_u8 {n : Int} {k : Int → Prop} (h : k n) : onIntK .u8 (u8v n) k := h
/-- s without n -/
def wo (s n : Nat) : Nat := bif s.testBit n then s - 2 ^ n else s
/-- the first one of s -/
def fi (s : Nat) : Nat := ((List.range 8).find? fun i => s.testBit i).getD 8
theorem has_bits : ∀ s, s < 256 → ∀ n, n < 8 → (IntKind.u8.wrap (↑(BitVec.ofInt 8 (((s : Nat) : Int).fdiv ((2 : Int) ^ min ((n : Nat) : Int).toNat 8)) &&& BitVec.ofInt 8 (1 : Int)).toNat : Int) == (1 : Int)) = s.testBit n := by decide +kernel
theorem wo_bits : ∀ s, s < 256 → ∀ n, n < 8 → IntKind.u8.wrap (↑(BitVec.ofInt 8 ((s : Nat) : Int) &&& ~~~BitVec.ofInt 8 (IntKind.u8.wrap ((1 : Int) * (2 : Int) ^ min ((n : Nat) : Int).toNat 8))).toNat : Int) = ((wo s n : Nat) : Int) := by decide +kernel
theorem wi_bits : ∀ s, s < 256 → ∀ n, n < 8 → IntKind.u8.wrap (↑(BitVec.ofInt 8 ((s : Nat) : Int) ||| BitVec.ofInt 8 (IntKind.u8.wrap ((1 : Int) * (2 : Int) ^ min ((n : Nat) : Int).toNat 8))).toNat : Int) = ((s ||| 2 ^ n : Nat) : Int) := by decide +kernel
theorem firsts_bits : ∀ n, n < 9 → IntKind.u8.wrap (IntKind.u8.wrap ((1 : Int) * (2 : Int) ^ min ((n : Nat) : Int).toNat 8) - (1 : Int)) = ((2 ^ n - 1 : Nat) : Int) := by decide +kernel
theorem wo_bit : ∀ s, s < 256 → ∀ n, n < 8 → ∀ m, m < 8 → (wo s n).testBit m = (s.testBit m && !decide (m = n)) := by decide +kernel
theorem wi_bit : ∀ s, s < 256 → ∀ n, n < 8 → ∀ m, m < 8 → (s ||| 2 ^ n).testBit m = (s.testBit m || decide (m = n)) := by decide +kernel
theorem fi_bit : ∀ s, s < 256 → s ≠ 0 → fi s < 8 ∧ s.testBit (fi s) = true := by decide +kernel
theorem wi_lt : ∀ s, s < 256 → ∀ n, n < 8 → s ||| 2 ^ n < 256 := by decide +kernel
theorem wo_le (s n : Nat) : wo s n ≤ s := by unfold wo; cases s.testBit n <;> simp
theorem wo_lt {s n : Nat} (h : s.testBit n = true) : wo s n < s := by
  unfold wo
  rw [h]
  have : 2 ^ n ≤ s := Nat.ge_two_pow_of_testBit h
  have := Nat.two_pow_pos n
  simp only [cond_true]
  omega
theorem bit8 {s n : Nat} (hs : s < 256) (h : s.testBit n = true) : n < 8 := by
  have : 2 ^ n ≤ s := Nat.ge_two_pow_of_testBit h
  exact (Nat.pow_lt_pow_iff_right (a := 2) (by omega)).1 (by omega)

theorem has47 {s n : Nat} {R : V → Prop} (hs : s < 256) (hn : n < 8) (h : R (bv (s.testBit n))) : K0G Tryz.prog glX 70 [sv s, iv (n : Int)] R := by
  refine K0_of_WY0 hmX hcM 100 Tryz.func70 (see (p := R (bv (IntKind.u8.wrap (↑(BitVec.ofInt 8 ((↑s : Int).fdiv ((2 : Int) ^ min (↑n : Int).toNat 8)) &&& BitVec.ofInt 8 (1 : Int)).toNat : Int) == (1 : Int)))) (by kernel_rfl) ?_)
  rw [has_bits s hs n hn]
  exact h
theorem without70 {s n : Nat} {R : V → Prop} (hs : s < 256) (hn : n < 8) (h : R (sv (wo s n))) : K0G Tryz.prog glX 110 [sv s, iv (n : Int)] R := by
  refine K0_of_WY0 hmX hcM 100 Tryz.func110 (see (p := R (V.raw (Value.int IntKind.u8 (IntKind.u8.wrap (↑(BitVec.ofInt 8 (↑s : Int) &&& ~~~BitVec.ofInt 8 (IntKind.u8.wrap ((1 : Int) * (2 : Int) ^ min (↑n : Int).toNat 8))).toNat : Int))))) (by kernel_rfl) ?_)
  rw [wo_bits s hs n hn]
  exact h
theorem with48 {s n : Nat} {R : V → Prop} (hs : s < 256) (hn : n < 8) (h : R (sv (s ||| 2 ^ n))) : K0G Tryz.prog glX 71 [sv s, iv (n : Int)] R := by
  refine K0_of_WY0 hmX hcM 100 Tryz.func71 (see (p := R (V.raw (Value.int IntKind.u8 (IntKind.u8.wrap (↑(BitVec.ofInt 8 (↑s : Int) ||| BitVec.ofInt 8 (IntKind.u8.wrap ((1 : Int) * (2 : Int) ^ min (↑n : Int).toNat 8))).toNat : Int))))) (by kernel_rfl) ?_)
  rw [wi_bits s hs n hn]
  exact h
theorem firsts44 {n : Nat} {R : V → Prop} (hn : n < 9) (h : R (sv (2 ^ n - 1))) : K0G Tryz.prog glX 66 [iv (n : Int)] R := by
  refine K0_of_WY0 hmX hcM 100 Tryz.func66 (see (p := R (V.raw (Value.int IntKind.u8 (IntKind.u8.wrap (IntKind.u8.wrap ((1 : Int) * (2 : Int) ^ min (↑n : Int).toNat 8) - (1 : Int)))))) (by kernel_rfl) ?_)
  rw [firsts_bits n hn]
  exact h
theorem fi_le : ∀ s, s < 256 → fi s ≤ 8 := by decide +kernel
def tab8 : Array UInt8 := (List.range 256).map (fun s => UInt8.ofNat (fi s)) |>.toArray
theorem first73 {s : Nat} {R : V → Prop} (hs : s < 256) (h : R (iv (fi s : Int))) : K0G Tryz.prog glX 111 [sv s] R := by
  refine K0_of_WY0 hmX hcM 100 Tryz.func111 (see (p := onSome (ByteArray.mk (([(8 : UInt8), (0 : UInt8), (1 : UInt8), (0 : UInt8), (2 : UInt8), (0 : UInt8), (1 : UInt8), (0 : UInt8), (3 : UInt8), (0 : UInt8), (1 : UInt8), (0 : UInt8), (2 : UInt8), (0 : UInt8), (1 : UInt8), (0 : UInt8), (4 : UInt8), (0 : UInt8), (1 : UInt8), (0 : UInt8), (2 : UInt8), (0 : UInt8), (1 : UInt8), (0 : UInt8), (3 : UInt8), (0 : UInt8), (1 : UInt8), (0 : UInt8), (2 : UInt8), (0 : UInt8), (1 : UInt8), (0 : UInt8), (5 : UInt8), (0 : UInt8), (1 : UInt8), (0 : UInt8), (2 : UInt8), (0 : UInt8), (1 : UInt8), (0 : UInt8), (3 : UInt8), (0 : UInt8), (1 : UInt8), (0 : UInt8), (2 : UInt8), (0 : UInt8), (1 : UInt8), (0 : UInt8), (4 : UInt8), (0 : UInt8), (1 : UInt8), (0 : UInt8), (2 : UInt8), (0 : UInt8), (1 : UInt8), (0 : UInt8), (3 : UInt8), (0 : UInt8), (1 : UInt8), (0 : UInt8), (2 : UInt8), (0 : UInt8), (1 : UInt8), (0 : UInt8)].append [(6 : UInt8), (0 : UInt8), (1 : UInt8), (0 : UInt8), (2 : UInt8), (0 : UInt8), (1 : UInt8), (0 : UInt8), (3 : UInt8), (0 : UInt8), (1 : UInt8), (0 : UInt8), (2 : UInt8), (0 : UInt8), (1 : UInt8), (0 : UInt8), (4 : UInt8), (0 : UInt8), (1 : UInt8), (0 : UInt8), (2 : UInt8), (0 : UInt8), (1 : UInt8), (0 : UInt8), (3 : UInt8), (0 : UInt8), (1 : UInt8), (0 : UInt8), (2 : UInt8), (0 : UInt8), (1 : UInt8), (0 : UInt8), (5 : UInt8), (0 : UInt8), (1 : UInt8), (0 : UInt8), (2 : UInt8), (0 : UInt8), (1 : UInt8), (0 : UInt8), (3 : UInt8), (0 : UInt8), (1 : UInt8), (0 : UInt8), (2 : UInt8), (0 : UInt8), (1 : UInt8), (0 : UInt8), (4 : UInt8), (0 : UInt8), (1 : UInt8), (0 : UInt8), (2 : UInt8), (0 : UInt8), (1 : UInt8), (0 : UInt8), (3 : UInt8), (0 : UInt8), (1 : UInt8), (0 : UInt8), (2 : UInt8), (0 : UInt8), (1 : UInt8), (0 : UInt8)]).append ([(7 : UInt8), (0 : UInt8), (1 : UInt8), (0 : UInt8), (2 : UInt8), (0 : UInt8), (1 : UInt8), (0 : UInt8), (3 : UInt8), (0 : UInt8), (1 : UInt8), (0 : UInt8), (2 : UInt8), (0 : UInt8), (1 : UInt8), (0 : UInt8), (4 : UInt8), (0 : UInt8), (1 : UInt8), (0 : UInt8), (2 : UInt8), (0 : UInt8), (1 : UInt8), (0 : UInt8), (3 : UInt8), (0 : UInt8), (1 : UInt8), (0 : UInt8), (2 : UInt8), (0 : UInt8), (1 : UInt8), (0 : UInt8), (5 : UInt8), (0 : UInt8), (1 : UInt8), (0 : UInt8), (2 : UInt8), (0 : UInt8), (1 : UInt8), (0 : UInt8), (3 : UInt8), (0 : UInt8), (1 : UInt8), (0 : UInt8), (2 : UInt8), (0 : UInt8), (1 : UInt8), (0 : UInt8), (4 : UInt8), (0 : UInt8), (1 : UInt8), (0 : UInt8), (2 : UInt8), (0 : UInt8), (1 : UInt8), (0 : UInt8), (3 : UInt8), (0 : UInt8), (1 : UInt8), (0 : UInt8), (2 : UInt8), (0 : UInt8), (1 : UInt8), (0 : UInt8)].append [(6 : UInt8), (0 : UInt8), (1 : UInt8), (0 : UInt8), (2 : UInt8), (0 : UInt8), (1 : UInt8), (0 : UInt8), (3 : UInt8), (0 : UInt8), (1 : UInt8), (0 : UInt8), (2 : UInt8), (0 : UInt8), (1 : UInt8), (0 : UInt8), (4 : UInt8), (0 : UInt8), (1 : UInt8), (0 : UInt8), (2 : UInt8), (0 : UInt8), (1 : UInt8), (0 : UInt8), (3 : UInt8), (0 : UInt8), (1 : UInt8), (0 : UInt8), (2 : UInt8), (0 : UInt8), (1 : UInt8), (0 : UInt8), (5 : UInt8), (0 : UInt8), (1 : UInt8), (0 : UInt8), (2 : UInt8), (0 : UInt8), (1 : UInt8), (0 : UInt8), (3 : UInt8), (0 : UInt8), (1 : UInt8), (0 : UInt8), (2 : UInt8), (0 : UInt8), (1 : UInt8), (0 : UInt8), (4 : UInt8), (0 : UInt8), (1 : UInt8), (0 : UInt8), (2 : UInt8), (0 : UInt8), (1 : UInt8), (0 : UInt8), (3 : UInt8), (0 : UInt8), (1 : UInt8), (0 : UInt8), (2 : UInt8), (0 : UInt8), (1 : UInt8), (0 : UInt8)])).toArray)[s]? fun b => R (iv (IntKind.i64.wrap (↑b.toNat : Int)))) (by kernel_rfl) ?_)
  have key : ∀ s, s < 256 → ∃ b : UInt8, tab8[s]? = some b ∧ b.toNat = fi s := fun s hs => ⟨UInt8.ofNat (fi s), by simp [tab8, hs], by revert s hs; decide +kernel⟩
  obtain ⟨b, h1, h2⟩ := key s hs
  refine onSome_mk (x := b) ((show _ = tab8[s]? by congr 1).trans h1) ?_
  rw [h2, wr (by omega) (by have := (fi_le s hs); omega)]
  exact h
theorem first45 {s : Nat} {R : V → Prop} (hs : s < 256) (h : R (iv (fi s : Int))) : K0G Tryz.prog glX 68 [sv s] R := by
  refine K0_of_WY0 hmX hcM 100 Tryz.func68 (see (p := K0G Tryz.prog glX 111 [V.raw (Value.int IntKind.u8 (↑s : Int))] fun v => onIntK IntKind.i64 v fun n => R (iv n)) (by kernel_rfl) ?_)
  exact first73 hs (onIntK_iv h)
end Go.Proofs.YtmddjopahcbefaaGreat
