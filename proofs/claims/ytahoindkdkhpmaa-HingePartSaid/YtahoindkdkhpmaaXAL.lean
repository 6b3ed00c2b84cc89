/- AL: a part of the proof. -/
import Derived.Test.YtahoindkdkhpmaaXA2
namespace Go.Proofs.Ytahoindkdkhpmaa
open Go Go.Proofs.Ytahoindkdkhpmaa.Clean
set_option maxRecDepth 100000

/-! The examples that every law asks again: call by call, run by the kernel. -/
def sqV : V := .lst 2 [[iv 0, iv 0], [iv 4, iv 0], [iv 4, iv 4], [iv 0, iv 4]]
def twV (n : Int) : V := .agg [.lst 1 [[sqV], [sqV]], .lst 5 [[iv 4, iv 0, iv 0, iv 0, iv n]]]
def poV9 : V := .lst 5 [[iv 1, iv 0, iv 0, iv 0, iv 1], [iv 3, iv 4, iv 20, iv 0, iv 5]]
def coV9 : V := .lst 2 [[iv 20, iv 0], [iv 32, iv 16], [iv 16, iv 28], [iv 4, iv 12]]
def ap9 : V := .agg [bv false, iv 0, iv 0, iv 0, iv 0, .lst 1 [[iv 1], [iv 2], [iv 0], [iv 0], [iv 0], [iv 0], [iv 0], [iv 2]]]
def ap3 : V := .agg [bv true, iv 1, iv 0, iv 4, iv 1, nilS]
def ap3' : V := .agg [bv true, iv 1, iv 0, iv 4, iv 1, .lst 0 []]
def s40 : V := .agg [iv 4, iv 0]
def s44 : V := .agg [iv 4, iv 4]
theorem run95 : K0 Try.prog 95 [] fun v => v = sqV := K0_ran hmH (fun g => !(Nat.beq g 73)) knows48 3000 Try.func95 (by kernel_rfl)
theorem two77 {n : Int} {R : V → Prop} (h : R (twV n)) : K0 Try.prog 77 [iv n] R := by
  refine K0_of_W0 (kps := kp0) (callsM_ok knows48 : CM.ok Try.prog) hmH Try.func77 (see (p := K0 Try.prog 95 [] fun v => onLst v fun s es => K0 Try.prog 95 [] fun v => onLst v fun s_1 es_1 => R (V.agg [V.lst 1 [[V.lst s es], [V.lst s_1 es_1]], V.lst 5 [[iv (4 : Int), iv (0 : Int), iv (0 : Int), iv (0 : Int), iv n]]])) (by kernel_rfl) ?_)
  exact run95.to (onLst_lst (run95.to (onLst_lst h)))
theorem run16_9 : K0 Try.prog 16 [iv 9] fun v => v = .tup [iv 3, iv 4, iv 5, iv 0] := K0_ran hmH (fun g => !(Nat.beq g 73)) knows48 3000 Try.func16 (by kernel_rfl)
theorem run21_9 : K0 Try.prog 21 [twV 9] fun v => v = .tup [poV9, iv 0] := K0_ran hmH (fun g => !(Nat.beq g 73)) knows48 3000 Try.func21 (by kernel_rfl)
theorem run26_9 : K0 Try.prog 26 [twV 9, iv 1] fun v => v = .tup [coV9, iv 5, iv 0] := K0_ran hmH (fun g => !(Nat.beq g 73)) knows48 3000 Try.func26 (by kernel_rfl)
theorem run35_9 : K0 Try.prog 35 [twV 9, iv 0, iv 1] fun v => v = .tup [ap9, iv 51] := K0_ran hmH (fun g => !(Nat.beq g 73)) knows48 3000 Try.func35 (by kernel_rfl)
theorem run35_3 : K0 Try.prog 35 [twV 3, iv 0, iv 1] fun v => v = .tup [ap3, iv 0] := K0_ran hmH (fun g => !(Nat.beq g 73)) knows48 3000 Try.func35 (by kernel_rfl)
theorem run29_2 : K0 Try.prog 29 [twV 2, s40, s44] fun v => v = .tup [iv 0, iv 0, iv 1, iv 0] := K0_ran hmH (fun g => !(Nat.beq g 73)) knows48 3000 Try.func29 (by kernel_rfl)
theorem run42_9 : K0 Try.prog 42 [twV 9, s40, s44] fun v => v = .tup [.lst 1 [[iv 2]], iv 0] := K0_ran hmH (fun g => !(Nat.beq g 73)) knows48 3000 Try.func42 (by kernel_rfl)
theorem run23 : K0 Try.prog 23 [poV9, poV9] fun v => v = bv true := K0_ran hmH (fun g => !(Nat.beq g 73)) knows48 3000 Try.func23 (by kernel_rfl)
theorem run28 : K0 Try.prog 28 [coV9, coV9] fun v => v = bv true := K0_ran hmH (fun g => !(Nat.beq g 73)) knows48 3000 Try.func28 (by kernel_rfl)
theorem run37_9 : K0 Try.prog 37 [twV 9, iv 0, iv 1, ap9] fun v => v = iv 0 := K0_ran hmH (fun g => !(Nat.beq g 73)) knows48 3000 Try.func37 (by kernel_rfl)
theorem run37_3 : K0 Try.prog 37 [twV 3, iv 0, iv 1, ap3'] fun v => v = iv 0 := K0_ran hmH (fun g => !(Nat.beq g 73)) knows48 3000 Try.func37 (by kernel_rfl)
theorem run41 : K0 Try.prog 41 [.lst 1 [[iv 2]], .lst 1 [[iv 2]]] fun v => v = bv true := K0_ran hmH (fun g => !(Nat.beq g 73)) knows48 3000 Try.func41 (by kernel_rfl)
theorem alive_any {R : V → Prop} (h : R (bv true)) : K0 Try.prog 44 [] R := by
  refine K0_of_W0 (kps := kp0) (callsM_ok knows48 : CM.ok Try.prog) hmH Try.func44 (see (p := K0 Try.prog 16 [iv (9 : Int)] fun v => onTup v fun vs => onCons vs fun u r => onIntK IntKind.i64 u fun n => onCons r fun u r => onIntK IntKind.i64 u fun n_1 => onCons r fun u r => onIntK IntKind.i64 u fun n_2 => onCons r fun u r => onIntK IntKind.i64 u fun n_3 => onNil r (K0 Try.prog 77 [iv (9 : Int)] fun v => onAgg v fun cs => onCons cs fun u r => onLst u fun s es => onCons r fun u r => onLst u fun s_1 es_1 => onNil r (K0 Try.prog 21 [V.agg [V.lst s es, V.lst s_1 es_1]] fun v => onTup v fun vs => onCons vs fun u r => onLst u fun s es => onCons r fun u r => onIntK IntKind.i64 u fun n_4 => onNil r (K0 Try.prog 77 [iv (9 : Int)] fun v => onAgg v fun cs => onCons cs fun u r => onLst u fun s_2 es_2 => onCons r fun u r => onLst u fun s_3 es_3 => onNil r (K0 Try.prog 26 [V.agg [V.lst s_2 es_2, V.lst s_3 es_3], iv (1 : Int)] fun v => onTup v fun vs => onCons vs fun u r => onLst u fun s_4 es_4 => onCons r fun u r => onIntK IntKind.i64 u fun n_5 => onCons r fun u r => onIntK IntKind.i64 u fun n_6 => onNil r (K0 Try.prog 77 [iv (9 : Int)] fun v => onAgg v fun cs => onCons cs fun u r => onLst u fun s_5 es_5 => onCons r fun u r => onLst u fun s_6 es_6 => onNil r (K0 Try.prog 35 [V.agg [V.lst s_5 es_5, V.lst s_6 es_6], iv (0 : Int), iv (1 : Int)] fun v => onTup v fun vs => onCons vs fun u r => onAgg u fun cs => onCons cs fun u r_1 => onBool u fun b => onCons r_1 fun u r_2 => onIntK IntKind.i64 u fun n_7 => onCons r_2 fun u r_3 => onIntK IntKind.i64 u fun n_8 => onCons r_3 fun u r_4 => onIntK IntKind.i64 u fun n_9 => onCons r_4 fun u r_5 => onIntK IntKind.i64 u fun n_10 => onCons r_5 fun u r_6 => onLst u fun s_7 es_7 => onNil r_6 (onCons r fun u r => onIntK IntKind.i64 u fun n_11 => onNil r (K0 Try.prog 77 [iv (3 : Int)] fun v => onAgg v fun cs => onCons cs fun u r => onLst u fun s_8 es_8 => onCons r fun u r => onLst u fun s_9 es_9 => onNil r (K0 Try.prog 35 [V.agg [V.lst s_8 es_8, V.lst s_9 es_9], iv (0 : Int), iv (1 : Int)] fun v => onTup v fun vs => onCons vs fun u r => onAgg u fun cs => onCons cs fun u r_7 => onBool u fun b_1 => onCons r_7 fun u r_8 => onIntK IntKind.i64 u fun n_12 => onCons r_8 fun u r_9 => onIntK IntKind.i64 u fun n_13 => onCons r_9 fun u r_10 => onIntK IntKind.i64 u fun n_14 => onCons r_10 fun u r_11 => onIntK IntKind.i64 u fun n_15 => onCons r_11 fun u r_12 => onLst u fun s_10 es_10 => onNil r_12 (onCons r fun u r => onIntK IntKind.i64 u fun n_16 => onNil r (K0 Try.prog 77 [iv (2 : Int)] fun v => onAgg v fun cs => onCons cs fun u r => onLst u fun s_11 es_11 => onCons r fun u r => onLst u fun s_12 es_12 => onNil r (K0 Try.prog 29 [V.agg [V.lst s_11 es_11, V.lst s_12 es_12], V.agg [iv (4 : Int), iv (0 : Int)], V.agg [iv (4 : Int), iv (4 : Int)]] fun v => onTup v fun vs => onCons vs fun u r => onIntK IntKind.i64 u fun n_17 => onCons r fun u r => onIntK IntKind.i64 u fun n_18 => onCons r fun u r => onIntK IntKind.i64 u fun n_19 => onCons r fun u r => onIntK IntKind.i64 u fun n_20 => onNil r (K0 Try.prog 77 [iv (9 : Int)] fun v => onAgg v fun cs => onCons cs fun u r => onLst u fun s_13 es_13 => onCons r fun u r => onLst u fun s_14 es_14 => onNil r (K0 Try.prog 42 [V.agg [V.lst s_13 es_13, V.lst s_14 es_14], V.agg [iv (4 : Int), iv (0 : Int)], V.agg [iv (4 : Int), iv (4 : Int)]] fun v => onTup v fun vs => onCons vs fun u r => onLst u fun s_15 es_15 => onCons r fun u r => onIntK IntKind.i64 u fun n_21 => onNil r (ifB (n_3 == (0 : Int)) (ifB (n == (3 : Int)) (ifB (n_1 == (4 : Int)) (ifB (n_2 == (5 : Int)) (ifB (n_4 == (0 : Int)) (K0 Try.prog 23 [V.lst s es, V.lst 5 [[iv (1 : Int), iv (0 : Int), iv (0 : Int), iv (0 : Int), iv (1 : Int)], [iv (3 : Int), iv (4 : Int), iv (20 : Int), iv (0 : Int), iv (5 : Int)]]] fun v => onBool v fun b_2 => ifB b_2 (ifB (n_6 == (0 : Int)) (ifB (n_5 == (5 : Int)) (K0 Try.prog 28 [V.lst s_4 es_4, V.lst 2 [[iv (20 : Int), iv (0 : Int)], [iv (32 : Int), iv (16 : Int)], [iv (16 : Int), iv (28 : Int)], [iv (4 : Int), iv (12 : Int)]]] fun v => onBool v fun b_3 => ifB b_3 (ifB (n_11 == (51 : Int)) (K0 Try.prog 77 [iv (9 : Int)] fun v => onAgg v fun cs => onCons cs fun u r => onLst u fun s es => onCons r fun u r => onLst u fun s_16 es_16 => onNil r (K0 Try.prog 37 [V.agg [V.lst s es, V.lst s_16 es_16], iv (0 : Int), iv (1 : Int), V.agg [bv b, iv n_7, iv n_8, iv n_9, iv n_10, V.lst s_7 es_7]] fun v => onIntK IntKind.i64 v fun n => ifB (n == (0 : Int)) (ifB (n_16 == (0 : Int)) (K0 Try.prog 77 [iv (3 : Int)] fun v => onAgg v fun cs => onCons cs fun u r => onLst u fun s es => onCons r fun u r => onLst u fun s_17 es_17 => onNil r (K0 Try.prog 37 [V.agg [V.lst s es, V.lst s_17 es_17], iv (0 : Int), iv (1 : Int), V.agg [bv b_1, iv n_12, iv n_13, iv n_14, iv n_15, V.lst s_10 es_10]] fun v => onIntK IntKind.i64 v fun n => ifB (n == (0 : Int)) (ifB (n_20 == (0 : Int)) (ifB (n_17 == (0 : Int)) (ifB (n_18 == (0 : Int)) (ifB (n_19 == (1 : Int)) (ifB (n_21 == (0 : Int)) (K0 Try.prog 41 [V.lst s_15 es_15, V.lst 1 [[iv (2 : Int)]]] fun v => onBool v fun b => R (bv b)) (R (bv false))) (R (bv false))) (R (bv false))) (R (bv false))) (R (bv false))) (R (bv false)))) (R (bv false))) (R (bv false)))) (R (bv false))) (R (bv false))) (R (bv false))) (R (bv false))) (R (bv false))) (R (bv false))) (R (bv false))) (R (bv false))) (R (bv false))) (R (bv false)))))))))))))))))) (by kernel_rfl) ?_)
  refine run16_9.to (onTup_tup (onCons_cons (onIntK_iv (onCons_cons (onIntK_iv (onCons_cons (onIntK_iv (onCons_cons (onIntK_iv (onNil_nil ?_))))))))))
  refine two77 (onAgg_agg (onCons_cons (onLst_lst (onCons_cons (onLst_lst (onNil_nil ?_))))))
  refine run21_9.to (onTup_tup (onCons_cons (onLst_lst (onCons_cons (onIntK_iv (onNil_nil ?_))))))
  refine two77 (onAgg_agg (onCons_cons (onLst_lst (onCons_cons (onLst_lst (onNil_nil ?_))))))
  refine run26_9.to (onTup_tup (onCons_cons (onLst_lst (onCons_cons (onIntK_iv (onCons_cons (onIntK_iv (onNil_nil ?_))))))))
  refine two77 (onAgg_agg (onCons_cons (onLst_lst (onCons_cons (onLst_lst (onNil_nil ?_))))))
  refine run35_9.to (onTup_tup (onCons_cons (onAgg_agg (onCons_cons (onBool_bv (onCons_cons (onIntK_iv (onCons_cons (onIntK_iv (onCons_cons (onIntK_iv (onCons_cons (onIntK_iv (onCons_cons (onLst_lst (onNil_nil (onCons_cons (onIntK_iv (onNil_nil ?_)))))))))))))))))))
  refine two77 (onAgg_agg (onCons_cons (onLst_lst (onCons_cons (onLst_lst (onNil_nil ?_))))))
  refine run35_3.to (onTup_tup (onCons_cons (onAgg_agg (onCons_cons (onBool_bv (onCons_cons (onIntK_iv (onCons_cons (onIntK_iv (onCons_cons (onIntK_iv (onCons_cons (onIntK_iv (onCons_cons (onLst_nil (onNil_nil (onCons_cons (onIntK_iv (onNil_nil ?_)))))))))))))))))))
  refine two77 (onAgg_agg (onCons_cons (onLst_lst (onCons_cons (onLst_lst (onNil_nil ?_))))))
  refine run29_2.to (onTup_tup (onCons_cons (onIntK_iv (onCons_cons (onIntK_iv (onCons_cons (onIntK_iv (onCons_cons (onIntK_iv (onNil_nil ?_))))))))))
  refine two77 (onAgg_agg (onCons_cons (onLst_lst (onCons_cons (onLst_lst (onNil_nil ?_))))))
  refine run42_9.to (onTup_tup (onCons_cons (onLst_lst (onCons_cons (onIntK_iv (onNil_nil ?_))))))
  refine run23.to (onBool_bv ?_)
  refine run28.to (onBool_bv ?_)
  refine two77 (onAgg_agg (onCons_cons (onLst_lst (onCons_cons (onLst_lst (onNil_nil ?_))))))
  refine run37_9.to (onIntK_iv ?_)
  refine two77 (onAgg_agg (onCons_cons (onLst_lst (onCons_cons (onLst_lst (onNil_nil ?_))))))
  refine run37_3.to (onIntK_iv ?_)
  exact run41.to (onBool_bv h)
theorem alive44 : K0 Try.prog 44 [] (fun v => v = bv true) := alive_any rfl
end Go.Proofs.Ytahoindkdkhpmaa
