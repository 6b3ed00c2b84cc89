/- Contract: GearTicks. -/
import Derived.Test.YtinccdbooeffbaaXH2
import Derived.Test.YtinccdbooeffbaaXGA
namespace Go.Proofs.Ytinccdbooeffbaa
open Go Go.Proofs.Ytinccdbooeffbaa.Clean
set_option linter.unusedVariables false
set_option linter.unusedSimpArgs false
set_option maxRecDepth 10000

noncomputable def sh11 (p : Pst) (n k : Nat) : St := ⟨mkT [(2, V.ptr 0 0 0), (5, bv true), (6, V.lst 1 (il (places p n))), (8, iv ((k : Int) + 1))], ⟨[(0, O.rows 3 false [[V.lst 1 (il p.1), iv p.2.1, iv p.2.2]])], 1⟩⟩

theorem alive_true {R : V → Prop} (h : R (bv true)) : K0 Try.prog 22 [] R := alive22.mono fun v hv => by rw [hv]; exact h

theorem ticks11 {p : Pst} {ticks : Int} {R : V → Prop} (hl : (p.1.length : Int) ≤ 9223372036854775807) (h : R (bv true)) : K0 Try.prog 11 [.agg [V.lst 1 (il p.1), iv p.2.1, iv p.2.2], iv ticks] R := by
  refine K0_of_W0 (kps := kp11) hC hmH Try.func11 (see (p := K0 Try.prog (22 : Nat) [] fun v =>
  onBool v fun b =>
    ifB (decide (ticks > (300 : Int))) (R (bv b))
      (ifB (decide ((↑(il p.1).length : Int) > (30 : Int))) (R (bv b))
        (K0 Try.prog (46 : Nat) [V.agg [V.lst (1 : Nat) (il p.1), iv p.2.1, iv p.2.2], iv ticks] fun v =>
          onTup v fun vs =>
            onSome vs[(0 : Nat)]? fun v =>
              onLst v fun s es =>
                onSome vs[(1 : Nat)]? fun v =>
                  onIntK IntKind.i64 v fun n =>
                    ifB (n != (0 : Int)) (ifB b (R (bv ((↑es.length : Int) == (0 : Int)))) (R (bv false)))
                      (ifB ((↑es.length : Int) != IntKind.i64.wrap (ticks + (1 : Int))) (R (bv false))
                        (need (s = (1 : Nat))
                          (onSome es[(0 : Nat)]? fun row =>
                            onSome row[(0 : Nat)]? fun v =>
                              onIntK IntKind.i64 v fun n =>
                                ifB (n != (0 : Int)) (R (bv false))
                                  (ifB ((↑(il p.1).length : Int) == (0 : Int)) (R (bv false))
                                    (Lp (kp11 (0 : Nat))
                                      (W Try.prog CC (146 : Nat) kp11 (0 : Nat)
                                        (cdAt
                                          [(1 : Nat), (1 : Nat), (1 : Nat), (1 : Nat), (1 : Nat), (1 : Nat), (0 : Nat),
                                            (1 : Nat), (0 : Nat), (0 : Nat)]
                                          (bodyOf Try.f11)))
                                      (Qblk (0 : Nat)
                                        (Qseq
                                          (W Try.prog CC (146 : Nat) kp11 (0 : Nat)
                                            (cdAt
                                              [(1 : Nat), (1 : Nat), (1 : Nat), (1 : Nat), (1 : Nat), (1 : Nat),
                                                (1 : Nat)]
                                              (bodyOf Try.f11)))
                                          (Qend0 Try.prog Try.f11 R)))
                                      (St.mk
                                        (mkT
                                          [((2 : Nat), V.ptr (0 : Nat) (0 : Nat) (0 : Nat)), ((5 : Nat), bv b),
                                            ((6 : Nat), V.lst s es), ((8 : Nat), iv (1 : Int))])
                                        (Hp.mk
                                          [((0 : Nat),
                                              O.rows (3 : Nat) false [[V.lst (1 : Nat) (il p.1), iv p.2.1, iv p.2.2]])]
                                          (1 : Nat))))))))))) (by kernel_rfl) ?_)
  refine alive_true (onBool_bv ?_)
  refine ifB_mk (fun _ => h) (fun h300 => ?_)
  refine ifB_mk (fun _ => h) (fun h30 => ?_)
  simp at h300 h30
  refine places4 hl ?_
  cases hok : (okP p && win ticks 0 10000) with
  | false =>
    refine onTup_tup (onSome_mk (x := nilS) rfl (onLst_nil (onSome_mk (x := iv 2) rfl (onIntK_iv ?_))))
    refine ifB_mk (fun _ => ifB_mk (fun _ => h) (fun hb => by simp at hb)) (fun hb => by simp at hb)
  | true =>
    simp only [Bool.and_eq_true, win_iff] at hok
    obtain ⟨hp, h0, _⟩ := hok
    obtain ⟨hne, hs, hs', hl'⟩ := okP_s hp
    obtain ⟨n, rfl⟩ : ∃ n : Nat, ticks = n := ⟨ticks.toNat, by omega⟩
    have hn : n ≤ 300 := by omega
    have htn : (n : Int).toNat = n := by omega
    show onTup (.tup [.lst 1 (il (places p (n : Int).toNat)), iv 0]) _
    rw [htn]
    refine onTup_tup (onSome_mk (x := .lst 1 (il (places p n))) rfl (onLst_lst (onSome_mk (x := iv 0) rfl (onIntK_iv ?_))))
    refine ifB_mk (fun hb => by simp at hb) (fun _ => ?_)
    refine ifB_mk (fun hb => ?_) (fun _ => ?_)
    · rw [il_length, places_length, wr (by omega) (by omega)] at hb
      simp at hb
    refine need_mk ⟨rfl, el (places_get (Nat.zero_le n)) ?_⟩
    refine ifB_mk (fun hb => by simp [place] at hb) (fun _ => ?_)
    have hpos : 0 < p.1.length := List.length_pos_iff.2 hne
    refine ifB_mk (fun hb => ?_) (fun _ => ?_)
    · rw [il_length] at hb
      simp at hb
      exact absurd hb hne
    refine Lp.of (σ := Nat) (sh11 p n) (fun k => k ≤ n) (fun k => n - k) 0 (by kernel_rfl) (by omega) ?_
    intro k hk J hJ
    refine see (p := ifB (decide ((↑k : Int) + (1 : Int) < (↑(il (places p n)).length : Int)))
  (need ((↑(il p.1).length : Int) ≠ (0 : Int))
    (onNat ((IntKind.i64.wrap ((↑k : Int) + (1 : Int) - (1 : Int))).tmod (↑(il p.1).length : Int)) fun m =>
      onSome (il p.1)[m]? fun row =>
        onSome row[(0 : Nat)]? fun v =>
          onIntK IntKind.i64 v fun n_1 =>
            onSome (il (places p n))[k + (1 : Nat)]? fun row =>
              onSome row[(0 : Nat)]? fun v =>
                onIntK IntKind.i64 v fun n_2 =>
                  onNat (IntKind.i64.wrap ((↑k : Int) + (1 : Int) - (1 : Int))) fun m =>
                    onSome (il (places p n))[m]? fun row =>
                      onSome row[(0 : Nat)]? fun v =>
                        onIntK IntKind.i64 v fun n_3 =>
                          onSome (il (places p n))[k + (1 : Nat)]? fun row =>
                            onSome row[(0 : Nat)]? fun v =>
                              onIntK IntKind.i64 v fun n_4 =>
                                ifB (decide (n_4 < (0 : Int))) (R (bv false))
                                  (onSome (il (places p n))[k + (1 : Nat)]? fun row =>
                                    onSome row[(0 : Nat)]? fun v =>
                                      onIntK IntKind.i64 v fun n_5 =>
                                        ifB (decide (n_5 > p.2.2)) (R (bv false))
                                          (ifB (decide (IntKind.i64.wrap (n_2 - n_3) < (-1 : Int))) (R (bv false))
                                            (ifB (decide (IntKind.i64.wrap (n_2 - n_3) > (1 : Int))) (R (bv false))
                                              (ifB (decide (n_1 ≥ p.2.1))
                                                (ifB (decide (IntKind.i64.wrap (n_2 - n_3) < (0 : Int))) (R (bv false))
                                                  (ifB (!decide (n_1 ≥ p.2.1))
                                                    (ifB (decide (IntKind.i64.wrap (n_2 - n_3) > (0 : Int)))
                                                      (R (bv false))
                                                      (ifB (IntKind.i64.wrap (n_2 - n_3) == (0 : Int))
                                                        (ifB (decide (n_1 ≥ p.2.1))
                                                          (onSome (il (places p n))[k + (1 : Nat)]? fun row =>
                                                            onSome row[(0 : Nat)]? fun v =>
                                                              onIntK IntKind.i64 v fun n_6 =>
                                                                ifB (n_6 != p.2.2) (R (bv false))
                                                                  (ifB (!decide (n_1 ≥ p.2.1))
                                                                    (onSome (il (places p n))[k + (1 : Nat)]? fun row =>
                                                                      onSome row[(0 : Nat)]? fun v =>
                                                                        onIntK IntKind.i64 v fun n_7 =>
                                                                          ifB (n_7 != (0 : Int)) (R (bv false))
                                                                            (J
                                                                              (St.mk
                                                                                (mkT
                                                                                  [((2 : Nat),
                                                                                      V.ptr (0 : Nat) (0 : Nat)
                                                                                        (0 : Nat)),
                                                                                    ((5 : Nat), bv true),
                                                                                    ((6 : Nat),
                                                                                      V.lst (1 : Nat)
                                                                                        (il (places p n))),
                                                                                    ((8 : Nat),
                                                                                      iv
                                                                                        (IntKind.i64.wrap
                                                                                          ((↑k : Int) + (1 : Int) +
                                                                                            (1 : Int))))])
                                                                                (Hp.mk
                                                                                  [((0 : Nat),
                                                                                      O.rows (3 : Nat) false
                                                                                        [[V.lst (1 : Nat) (il p.1),
                                                                                            iv p.2.1, iv p.2.2]])]
                                                                                  (1 : Nat)))))
                                                                    (J
                                                                      (St.mk
                                                                        (mkT
                                                                          [((2 : Nat),
                                                                              V.ptr (0 : Nat) (0 : Nat) (0 : Nat)),
                                                                            ((5 : Nat), bv true),
                                                                            ((6 : Nat),
                                                                              V.lst (1 : Nat) (il (places p n))),
                                                                            ((8 : Nat),
                                                                              iv
                                                                                (IntKind.i64.wrap
                                                                                  ((↑k : Int) + (1 : Int) +
                                                                                    (1 : Int))))])
                                                                        (Hp.mk
                                                                          [((0 : Nat),
                                                                              O.rows (3 : Nat) false
                                                                                [[V.lst (1 : Nat) (il p.1), iv p.2.1,
                                                                                    iv p.2.2]])]
                                                                          (1 : Nat))))))
                                                          (ifB (!decide (n_1 ≥ p.2.1))
                                                            (onSome (il (places p n))[k + (1 : Nat)]? fun row =>
                                                              onSome row[(0 : Nat)]? fun v =>
                                                                onIntK IntKind.i64 v fun n_6 =>
                                                                  ifB (n_6 != (0 : Int)) (R (bv false))
                                                                    (J
                                                                      (St.mk
                                                                        (mkT
                                                                          [((2 : Nat),
                                                                              V.ptr (0 : Nat) (0 : Nat) (0 : Nat)),
                                                                            ((5 : Nat), bv true),
                                                                            ((6 : Nat),
                                                                              V.lst (1 : Nat) (il (places p n))),
                                                                            ((8 : Nat),
                                                                              iv
                                                                                (IntKind.i64.wrap
                                                                                  ((↑k : Int) + (1 : Int) +
                                                                                    (1 : Int))))])
                                                                        (Hp.mk
                                                                          [((0 : Nat),
                                                                              O.rows (3 : Nat) false
                                                                                [[V.lst (1 : Nat) (il p.1), iv p.2.1,
                                                                                    iv p.2.2]])]
                                                                          (1 : Nat)))))
                                                            (J
                                                              (St.mk
                                                                (mkT
                                                                  [((2 : Nat), V.ptr (0 : Nat) (0 : Nat) (0 : Nat)),
                                                                    ((5 : Nat), bv true),
                                                                    ((6 : Nat), V.lst (1 : Nat) (il (places p n))),
                                                                    ((8 : Nat),
                                                                      iv
                                                                        (IntKind.i64.wrap
                                                                          ((↑k : Int) + (1 : Int) + (1 : Int))))])
                                                                (Hp.mk
                                                                  [((0 : Nat),
                                                                      O.rows (3 : Nat) false
                                                                        [[V.lst (1 : Nat) (il p.1), iv p.2.1,
                                                                            iv p.2.2]])]
                                                                  (1 : Nat))))))
                                                        (J
                                                          (St.mk
                                                            (mkT
                                                              [((2 : Nat), V.ptr (0 : Nat) (0 : Nat) (0 : Nat)),
                                                                ((5 : Nat), bv true),
                                                                ((6 : Nat), V.lst (1 : Nat) (il (places p n))),
                                                                ((8 : Nat),
                                                                  iv
                                                                    (IntKind.i64.wrap
                                                                      ((↑k : Int) + (1 : Int) + (1 : Int))))])
                                                            (Hp.mk
                                                              [((0 : Nat),
                                                                  O.rows (3 : Nat) false
                                                                    [[V.lst (1 : Nat) (il p.1), iv p.2.1, iv p.2.2]])]
                                                              (1 : Nat))))))
                                                    (ifB (IntKind.i64.wrap (n_2 - n_3) == (0 : Int))
                                                      (ifB (decide (n_1 ≥ p.2.1))
                                                        (onSome (il (places p n))[k + (1 : Nat)]? fun row =>
                                                          onSome row[(0 : Nat)]? fun v =>
                                                            onIntK IntKind.i64 v fun n_6 =>
                                                              ifB (n_6 != p.2.2) (R (bv false))
                                                                (ifB (!decide (n_1 ≥ p.2.1))
                                                                  (onSome (il (places p n))[k + (1 : Nat)]? fun row =>
                                                                    onSome row[(0 : Nat)]? fun v =>
                                                                      onIntK IntKind.i64 v fun n_7 =>
                                                                        ifB (n_7 != (0 : Int)) (R (bv false))
                                                                          (J
                                                                            (St.mk
                                                                              (mkT
                                                                                [((2 : Nat),
                                                                                    V.ptr (0 : Nat) (0 : Nat)
                                                                                      (0 : Nat)),
                                                                                  ((5 : Nat), bv true),
                                                                                  ((6 : Nat),
                                                                                    V.lst (1 : Nat) (il (places p n))),
                                                                                  ((8 : Nat),
                                                                                    iv
                                                                                      (IntKind.i64.wrap
                                                                                        ((↑k : Int) + (1 : Int) +
                                                                                          (1 : Int))))])
                                                                              (Hp.mk
                                                                                [((0 : Nat),
                                                                                    O.rows (3 : Nat) false
                                                                                      [[V.lst (1 : Nat) (il p.1),
                                                                                          iv p.2.1, iv p.2.2]])]
                                                                                (1 : Nat)))))
                                                                  (J
                                                                    (St.mk
                                                                      (mkT
                                                                        [((2 : Nat),
                                                                            V.ptr (0 : Nat) (0 : Nat) (0 : Nat)),
                                                                          ((5 : Nat), bv true),
                                                                          ((6 : Nat),
                                                                            V.lst (1 : Nat) (il (places p n))),
                                                                          ((8 : Nat),
                                                                            iv
                                                                              (IntKind.i64.wrap
                                                                                ((↑k : Int) + (1 : Int) + (1 : Int))))])
                                                                      (Hp.mk
                                                                        [((0 : Nat),
                                                                            O.rows (3 : Nat) false
                                                                              [[V.lst (1 : Nat) (il p.1), iv p.2.1,
                                                                                  iv p.2.2]])]
                                                                        (1 : Nat))))))
                                                        (ifB (!decide (n_1 ≥ p.2.1))
                                                          (onSome (il (places p n))[k + (1 : Nat)]? fun row =>
                                                            onSome row[(0 : Nat)]? fun v =>
                                                              onIntK IntKind.i64 v fun n_6 =>
                                                                ifB (n_6 != (0 : Int)) (R (bv false))
                                                                  (J
                                                                    (St.mk
                                                                      (mkT
                                                                        [((2 : Nat),
                                                                            V.ptr (0 : Nat) (0 : Nat) (0 : Nat)),
                                                                          ((5 : Nat), bv true),
                                                                          ((6 : Nat),
                                                                            V.lst (1 : Nat) (il (places p n))),
                                                                          ((8 : Nat),
                                                                            iv
                                                                              (IntKind.i64.wrap
                                                                                ((↑k : Int) + (1 : Int) + (1 : Int))))])
                                                                      (Hp.mk
                                                                        [((0 : Nat),
                                                                            O.rows (3 : Nat) false
                                                                              [[V.lst (1 : Nat) (il p.1), iv p.2.1,
                                                                                  iv p.2.2]])]
                                                                        (1 : Nat)))))
                                                          (J
                                                            (St.mk
                                                              (mkT
                                                                [((2 : Nat), V.ptr (0 : Nat) (0 : Nat) (0 : Nat)),
                                                                  ((5 : Nat), bv true),
                                                                  ((6 : Nat), V.lst (1 : Nat) (il (places p n))),
                                                                  ((8 : Nat),
                                                                    iv
                                                                      (IntKind.i64.wrap
                                                                        ((↑k : Int) + (1 : Int) + (1 : Int))))])
                                                              (Hp.mk
                                                                [((0 : Nat),
                                                                    O.rows (3 : Nat) false
                                                                      [[V.lst (1 : Nat) (il p.1), iv p.2.1, iv p.2.2]])]
                                                                (1 : Nat))))))
                                                      (J
                                                        (St.mk
                                                          (mkT
                                                            [((2 : Nat), V.ptr (0 : Nat) (0 : Nat) (0 : Nat)),
                                                              ((5 : Nat), bv true),
                                                              ((6 : Nat), V.lst (1 : Nat) (il (places p n))),
                                                              ((8 : Nat),
                                                                iv
                                                                  (IntKind.i64.wrap
                                                                    ((↑k : Int) + (1 : Int) + (1 : Int))))])
                                                          (Hp.mk
                                                            [((0 : Nat),
                                                                O.rows (3 : Nat) false
                                                                  [[V.lst (1 : Nat) (il p.1), iv p.2.1, iv p.2.2]])]
                                                            (1 : Nat)))))))
                                                (ifB (!decide (n_1 ≥ p.2.1))
                                                  (ifB (decide (IntKind.i64.wrap (n_2 - n_3) > (0 : Int)))
                                                    (R (bv false))
                                                    (ifB (IntKind.i64.wrap (n_2 - n_3) == (0 : Int))
                                                      (ifB (decide (n_1 ≥ p.2.1))
                                                        (onSome (il (places p n))[k + (1 : Nat)]? fun row =>
                                                          onSome row[(0 : Nat)]? fun v =>
                                                            onIntK IntKind.i64 v fun n_6 =>
                                                              ifB (n_6 != p.2.2) (R (bv false))
                                                                (ifB (!decide (n_1 ≥ p.2.1))
                                                                  (onSome (il (places p n))[k + (1 : Nat)]? fun row =>
                                                                    onSome row[(0 : Nat)]? fun v =>
                                                                      onIntK IntKind.i64 v fun n_7 =>
                                                                        ifB (n_7 != (0 : Int)) (R (bv false))
                                                                          (J
                                                                            (St.mk
                                                                              (mkT
                                                                                [((2 : Nat),
                                                                                    V.ptr (0 : Nat) (0 : Nat)
                                                                                      (0 : Nat)),
                                                                                  ((5 : Nat), bv true),
                                                                                  ((6 : Nat),
                                                                                    V.lst (1 : Nat) (il (places p n))),
                                                                                  ((8 : Nat),
                                                                                    iv
                                                                                      (IntKind.i64.wrap
                                                                                        ((↑k : Int) + (1 : Int) +
                                                                                          (1 : Int))))])
                                                                              (Hp.mk
                                                                                [((0 : Nat),
                                                                                    O.rows (3 : Nat) false
                                                                                      [[V.lst (1 : Nat) (il p.1),
                                                                                          iv p.2.1, iv p.2.2]])]
                                                                                (1 : Nat)))))
                                                                  (J
                                                                    (St.mk
                                                                      (mkT
                                                                        [((2 : Nat),
                                                                            V.ptr (0 : Nat) (0 : Nat) (0 : Nat)),
                                                                          ((5 : Nat), bv true),
                                                                          ((6 : Nat),
                                                                            V.lst (1 : Nat) (il (places p n))),
                                                                          ((8 : Nat),
                                                                            iv
                                                                              (IntKind.i64.wrap
                                                                                ((↑k : Int) + (1 : Int) + (1 : Int))))])
                                                                      (Hp.mk
                                                                        [((0 : Nat),
                                                                            O.rows (3 : Nat) false
                                                                              [[V.lst (1 : Nat) (il p.1), iv p.2.1,
                                                                                  iv p.2.2]])]
                                                                        (1 : Nat))))))
                                                        (ifB (!decide (n_1 ≥ p.2.1))
                                                          (onSome (il (places p n))[k + (1 : Nat)]? fun row =>
                                                            onSome row[(0 : Nat)]? fun v =>
                                                              onIntK IntKind.i64 v fun n_6 =>
                                                                ifB (n_6 != (0 : Int)) (R (bv false))
                                                                  (J
                                                                    (St.mk
                                                                      (mkT
                                                                        [((2 : Nat),
                                                                            V.ptr (0 : Nat) (0 : Nat) (0 : Nat)),
                                                                          ((5 : Nat), bv true),
                                                                          ((6 : Nat),
                                                                            V.lst (1 : Nat) (il (places p n))),
                                                                          ((8 : Nat),
                                                                            iv
                                                                              (IntKind.i64.wrap
                                                                                ((↑k : Int) + (1 : Int) + (1 : Int))))])
                                                                      (Hp.mk
                                                                        [((0 : Nat),
                                                                            O.rows (3 : Nat) false
                                                                              [[V.lst (1 : Nat) (il p.1), iv p.2.1,
                                                                                  iv p.2.2]])]
                                                                        (1 : Nat)))))
                                                          (J
                                                            (St.mk
                                                              (mkT
                                                                [((2 : Nat), V.ptr (0 : Nat) (0 : Nat) (0 : Nat)),
                                                                  ((5 : Nat), bv true),
                                                                  ((6 : Nat), V.lst (1 : Nat) (il (places p n))),
                                                                  ((8 : Nat),
                                                                    iv
                                                                      (IntKind.i64.wrap
                                                                        ((↑k : Int) + (1 : Int) + (1 : Int))))])
                                                              (Hp.mk
                                                                [((0 : Nat),
                                                                    O.rows (3 : Nat) false
                                                                      [[V.lst (1 : Nat) (il p.1), iv p.2.1, iv p.2.2]])]
                                                                (1 : Nat))))))
                                                      (J
                                                        (St.mk
                                                          (mkT
                                                            [((2 : Nat), V.ptr (0 : Nat) (0 : Nat) (0 : Nat)),
                                                              ((5 : Nat), bv true),
                                                              ((6 : Nat), V.lst (1 : Nat) (il (places p n))),
                                                              ((8 : Nat),
                                                                iv
                                                                  (IntKind.i64.wrap
                                                                    ((↑k : Int) + (1 : Int) + (1 : Int))))])
                                                          (Hp.mk
                                                            [((0 : Nat),
                                                                O.rows (3 : Nat) false
                                                                  [[V.lst (1 : Nat) (il p.1), iv p.2.1, iv p.2.2]])]
                                                            (1 : Nat))))))
                                                  (ifB (IntKind.i64.wrap (n_2 - n_3) == (0 : Int))
                                                    (ifB (decide (n_1 ≥ p.2.1))
                                                      (onSome (il (places p n))[k + (1 : Nat)]? fun row =>
                                                        onSome row[(0 : Nat)]? fun v =>
                                                          onIntK IntKind.i64 v fun n_6 =>
                                                            ifB (n_6 != p.2.2) (R (bv false))
                                                              (ifB (!decide (n_1 ≥ p.2.1))
                                                                (onSome (il (places p n))[k + (1 : Nat)]? fun row =>
                                                                  onSome row[(0 : Nat)]? fun v =>
                                                                    onIntK IntKind.i64 v fun n_7 =>
                                                                      ifB (n_7 != (0 : Int)) (R (bv false))
                                                                        (J
                                                                          (St.mk
                                                                            (mkT
                                                                              [((2 : Nat),
                                                                                  V.ptr (0 : Nat) (0 : Nat) (0 : Nat)),
                                                                                ((5 : Nat), bv true),
                                                                                ((6 : Nat),
                                                                                  V.lst (1 : Nat) (il (places p n))),
                                                                                ((8 : Nat),
                                                                                  iv
                                                                                    (IntKind.i64.wrap
                                                                                      ((↑k : Int) + (1 : Int) +
                                                                                        (1 : Int))))])
                                                                            (Hp.mk
                                                                              [((0 : Nat),
                                                                                  O.rows (3 : Nat) false
                                                                                    [[V.lst (1 : Nat) (il p.1),
                                                                                        iv p.2.1, iv p.2.2]])]
                                                                              (1 : Nat)))))
                                                                (J
                                                                  (St.mk
                                                                    (mkT
                                                                      [((2 : Nat), V.ptr (0 : Nat) (0 : Nat) (0 : Nat)),
                                                                        ((5 : Nat), bv true),
                                                                        ((6 : Nat), V.lst (1 : Nat) (il (places p n))),
                                                                        ((8 : Nat),
                                                                          iv
                                                                            (IntKind.i64.wrap
                                                                              ((↑k : Int) + (1 : Int) + (1 : Int))))])
                                                                    (Hp.mk
                                                                      [((0 : Nat),
                                                                          O.rows (3 : Nat) false
                                                                            [[V.lst (1 : Nat) (il p.1), iv p.2.1,
                                                                                iv p.2.2]])]
                                                                      (1 : Nat))))))
                                                      (ifB (!decide (n_1 ≥ p.2.1))
                                                        (onSome (il (places p n))[k + (1 : Nat)]? fun row =>
                                                          onSome row[(0 : Nat)]? fun v =>
                                                            onIntK IntKind.i64 v fun n_6 =>
                                                              ifB (n_6 != (0 : Int)) (R (bv false))
                                                                (J
                                                                  (St.mk
                                                                    (mkT
                                                                      [((2 : Nat), V.ptr (0 : Nat) (0 : Nat) (0 : Nat)),
                                                                        ((5 : Nat), bv true),
                                                                        ((6 : Nat), V.lst (1 : Nat) (il (places p n))),
                                                                        ((8 : Nat),
                                                                          iv
                                                                            (IntKind.i64.wrap
                                                                              ((↑k : Int) + (1 : Int) + (1 : Int))))])
                                                                    (Hp.mk
                                                                      [((0 : Nat),
                                                                          O.rows (3 : Nat) false
                                                                            [[V.lst (1 : Nat) (il p.1), iv p.2.1,
                                                                                iv p.2.2]])]
                                                                      (1 : Nat)))))
                                                        (J
                                                          (St.mk
                                                            (mkT
                                                              [((2 : Nat), V.ptr (0 : Nat) (0 : Nat) (0 : Nat)),
                                                                ((5 : Nat), bv true),
                                                                ((6 : Nat), V.lst (1 : Nat) (il (places p n))),
                                                                ((8 : Nat),
                                                                  iv
                                                                    (IntKind.i64.wrap
                                                                      ((↑k : Int) + (1 : Int) + (1 : Int))))])
                                                            (Hp.mk
                                                              [((0 : Nat),
                                                                  O.rows (3 : Nat) false
                                                                    [[V.lst (1 : Nat) (il p.1), iv p.2.1, iv p.2.2]])]
                                                              (1 : Nat))))))
                                                    (J
                                                      (St.mk
                                                        (mkT
                                                          [((2 : Nat), V.ptr (0 : Nat) (0 : Nat) (0 : Nat)),
                                                            ((5 : Nat), bv true),
                                                            ((6 : Nat), V.lst (1 : Nat) (il (places p n))),
                                                            ((8 : Nat),
                                                              iv
                                                                (IntKind.i64.wrap
                                                                  ((↑k : Int) + (1 : Int) + (1 : Int))))])
                                                        (Hp.mk
                                                          [((0 : Nat),
                                                              O.rows (3 : Nat) false
                                                                [[V.lst (1 : Nat) (il p.1), iv p.2.1, iv p.2.2]])]
                                                          (1 : Nat))))))))))))
  (R (bv true))) (by kernel_rfl) ?_
    refine ifB_mk (fun hlt => ?_) (fun hge => h)
    rw [il_length, places_length] at hlt
    have hkn : k < n := by simp at hlt; omega
    have hlt : k % p.1.length < p.1.length := Nat.mod_lt _ hpos
    have hw : IntKind.i64.wrap ((k : Int) + 1 - 1) = (k : Int) := by rw [wr (by omega) (by omega)]; omega
    have hidx : (k : Int).tmod ((il p.1).length : Int) = ((k % p.1.length : Nat) : Int) := by rw [il_length]; exact (Int.ofNat_tmod k p.1.length).symm
    have hnx := hJ (k + 1) hkn (by omega)
    unfold sh11 at hnx
    rw [show ((k + 1 : Nat) : Int) + 1 = IntKind.i64.wrap ((k : Int) + 1 + 1) by rw [wr (by omega) (by omega)]; simp] at hnx
    obtain ⟨x, hx⟩ : ∃ x, x = p.1[k % p.1.length] := ⟨_, rfl⟩
    obtain ⟨a, ha⟩ : ∃ a, a = place p (k + 1) := ⟨_, rfl⟩
    obtain ⟨b, hb⟩ : ∃ b, b = place p k := ⟨_, rfl⟩
    have hba := place_bound hs (k + 1)
    have hbb := place_bound hs k
    have ga : (places p n)[k + 1]? = some a := by rw [ha]; exact places_get hkn
    have gb : (places p n)[k]? = some b := by rw [hb]; exact places_get hk
    have hmv : (x ≥ p.2.1 ∧ ((p.2.2 < b + 1 ∧ a = p.2.2) ∨ (¬ p.2.2 < b + 1 ∧ a = b + 1))) ∨ (¬ x ≥ p.2.1 ∧ ((0 > b - 1 ∧ a = 0) ∨ (¬ 0 > b - 1 ∧ a = b - 1))) := by
      have hg : p.1.getD (k % p.1.length) 0 = x := by rw [hx]; simp [List.getD, List.getElem?_eq_getElem hlt]
      have : a = mv p k b := by rw [ha, hb]; rfl
      rw [this]
      unfold mv
      rw [hg]
      by_cases h1 : x ≥ p.2.1
      · left
        refine ⟨h1, ?_⟩
        rw [if_pos h1]
        by_cases h2 : p.2.2 < b + 1
        · exact .inl ⟨h2, if_pos h2⟩
        · exact .inr ⟨h2, if_neg h2⟩
      · right
        refine ⟨h1, ?_⟩
        rw [if_neg h1]
        by_cases h2 : 0 > b - 1
        · exact .inl ⟨h2, if_pos h2⟩
        · exact .inr ⟨h2, if_neg h2⟩
    rw [← ha] at hba
    rw [← hb] at hbb
    have hsub : IntKind.i64.wrap (a - b) = a - b := wr (by omega) (by omega)
    refine need_mk ⟨by rw [il_length]; omega, ?_⟩
    rw [hw]
    refine onNat_mk hidx (el (x := x) (by rw [hx]; exact List.getElem?_eq_getElem hlt) (el ga (onNat_mk rfl (el gb ?_))))
    rw [hsub]
    clear ha hb hx hJ hlt hw hidx
    repeat' first
      | exact hnx
      | refine el ga ?_
      | (refine ifB_mk (fun hb => ?_) (fun hb => ?_) <;> simp at hb)
    all_goals (exfalso; omega)
end Go.Proofs.Ytinccdbooeffbaa
