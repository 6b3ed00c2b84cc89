/- A part of the proof. -/
import Derived.Test.YtmdimnmdoifkfaaXR8G13
namespace Go.Proofs.Ytmdimnmdoifkfaa
open Go Go.Proofs.Ytmdimnmdoifkfaa.Clean
set_option linter.unusedVariables false
set_option linter.unusedSimpArgs false
set_option maxRecDepth 10000
theorem rtI_ok : ∀ f args us v k, rtI f args us v k → ∃ v', k v' ∧ ∀ {F : Nat → Prop} {w : World} {ν : Nu} {x : Value}, rep F w ν v x → rep F w ν v' x := by
  intro f args us v k h
  unfold rtI at h
  split at h <;> exact sameV_rep h
theorem hcI : cfI.ok Try.prog := cfgG_ok rtI_ok
theorem hcIS : cfIS.ok Try.prog := ⟨hcI.c0, hcI.known⟩
theorem clu_take {S : Int} {r : List Fd} {m : Nat} (h1 : 1 ≤ m) (h2 : m ≤ r.length) (h3 : ∀ j, 1 ≤ j → j < m → nearP S r j) (h4 : m = r.length ∨ ¬ nearP S r m) : clu S r = r.take m :: clu S (r.drop m) := by
  cases r with
  | nil => simp at h2; omega
  | cons x r =>
    obtain ⟨e1, e2⟩ := cl1_take S r x m h1 (by simpa using h2) h3 (by simpa using h4)
    rw [clu_cons, e1, e2]
def outS (b : Bt) (c : List Fd) (g : Int) : Sw := ((fd c 0).1 + (gt b g).1 - b.S, g, true)
def backS (b : Bt) (c : List Fd) (g : Int) : Sw := ((fd c (c.length - 1)).1 + (gt b g).1 + 1, g, false)
noncomputable def swC (b : Bt) (F : List Sw) (c : List Fd) : List Sw := if sortF b c = -1 then F else insF (insF F (outS b c (sortF b c))) (backS b c (sortF b c))
noncomputable def swL (b : Bt) (L : List (List Fd)) (F : List Sw) : List Sw := L.foldl (swC b) F
noncomputable def swings (b : Bt) (l : List Fd) : List Sw := swL b (clu b.S l) []
def lsW (F : List Sw) : V := match F with | [] => nilS | x :: t => .lst 3 (swl (x :: t))
noncomputable def swT (b : Bt) (l : List Fd) : V := if dc (BtP b ∧ FdP l) = true then .tup [lsW (swings b l), iv 0] else .tup [nilS, iv (askE b l)]
theorem swl_take (l : List Sw) : List.take l.length (swl l) = swl l := by rw [← swl_length]; exact List.take_length
noncomputable def sh24 (b : Bt) (l : List Fd) (n n' : Int) (s : Bool × List Fd × List Sw) : St := match s.2.2 with
  | [] => (match s.1 with | true => st22 (nA b l n n' (fdl s.2.1)) | false => st22 (nB b l n n' (fdl s.2.1)))
  | x :: t => st22 (nC b l n n' (fdl s.2.1) (x :: t))
theorem sh24_c {b : Bt} {l r : List Fd} {n n' : Int} {f : Bool} {F : List Sw} (h : F ≠ []) : sh24 b l n n' (f, r, F) = st22 (nC b l n n' (fdl r) F) := by cases F with | nil => exact (h rfl).elim | cons x t => rfl
theorem ins_ne (l : List Sw) (x : Sw) : insF l x ≠ [] := fun h => by have := insF_length l x; rw [h] at this; simp at this
theorem eq24 (b : Bt) (l : List Fd) (R : V → Prop) : (K0G Try.prog glX 18 [V.agg [iv b.1, iv b.2, iv b.3, V.lst 2 (gl b.4), V.lst 1 (nl b.5)]] fun v => onIntK IntKind.i64 v fun n => K0G Try.prog glX 20 [V.lst 3 (fdl l)] fun v => onIntK IntKind.i64 v fun n_1 => ifB (n != (0 : Int)) (ifB (n != (0 : Int)) (R (V.tup [nilS, iv n])) (La 6 [(0 : Tmp), (1 : Tmp), (2 : Tmp)] (WY Try.prog cfIS 2991 (Env.mk (Bs.mk 0 (spared [] [V.yl (Id.p 5), V.ptr (Id.p 3) 0 0, V.ptr (Id.p 4) 0 0] ++ [])) 6 none 41 90 0) (cdAt [0, 0] (bodyOf Try.f90))) (Qblk 0 (QendX Try.prog Try.f90 fun v h' => kontY (WY Try.prog cfIS 2993) (Env.mk (Bs.mk 0 []) 0 none 64 24 0) (Qblk 0 (Qthen (WY Try.prog cfIS 2996 (Env.mk (Bs.mk 0 []) 0 none 64 24 0) (cdAt [1, 1, 1, 1] (bodyOf Try.f24)) (QendX Try.prog Try.f24 fun v h => R (frzW h v))) (QendX Try.prog Try.f24 fun v h => R (frzW h v)))) (mkT [(0, V.agg [iv b.1, iv b.2, iv b.3, V.lst 2 (gl b.4), V.lst 1 (nl b.5)]), (1, V.lst 3 (fdl l)), (2, V.ptr (Id.p 0) 0 0), (4, nilS), (5, iv (0 : Int)), (6, iv n), (7, V.ptr (Id.p 2) 0 0), (13, V.agg [iv b.1, iv b.2, iv b.3, V.lst 2 (gl b.4), V.lst 1 (nl b.5)]), (14, iv n), (15, V.lst 3 (fdl l)), (16, iv n_1), (17, V.sl (Id.p 1) 0 2), (18, iv n), (19, iv n), (20, bv (n != (0 : Int))), (22, V.lst 3 (fdl l)), (23, V.ptr (Id.p 0) 0 2), (24, iv b.3), (25, V.fn (Fn.func 90) [] [V.ptr (Id.p 3) 0 0, V.ptr (Id.p 4) 0 0])]) 5 v (bif cfIS.clean 90 then gcH 6 v h' else h'))) (St.mk (mkT [(0, V.yl (Id.p 5)), (1, V.ptr (Id.p 3) 0 0), (2, V.ptr (Id.p 4) 0 0)]) (Hp.mk [(5, O.lp (Lr.mk LoopState.ready none (mkT [(0, V.agg [iv b.1, iv b.2, iv b.3, V.lst 2 (gl b.4), V.lst 1 (nl b.5)]), (1, V.lst 3 (fdl l)), (2, V.ptr (Id.p 0) 0 0), (4, nilS), (5, iv (0 : Int)), (6, iv n), (7, V.ptr (Id.p 2) 0 0), (13, V.agg [iv b.1, iv b.2, iv b.3, V.lst 2 (gl b.4), V.lst 1 (nl b.5)]), (14, iv n), (15, V.lst 3 (fdl l)), (16, iv n_1), (17, V.sl (Id.p 1) 0 2), (18, iv n), (19, iv n), (20, bv (n != (0 : Int))), (22, V.lst 3 (fdl l)), (23, V.ptr (Id.p 0) 0 2), (24, iv b.3), (25, V.fn (Fn.func 90) [] [V.ptr (Id.p 3) 0 0, V.ptr (Id.p 4) 0 0])]) 64 (Array.mk [26]) (rfA (cdAt [1, 1, 1, 0, 1, 0] (bodyOf Try.f24))) (rfB (cdAt [1, 1, 1, 0, 1, 0] (bodyOf Try.f24))) 24)), (4, O.rows 1 false [[iv b.3]]), (3, O.rows 1 false [[V.lst 3 (fdl l)]]), (2, O.rows 1 false [[nilS]]), (1, O.rows 1 true [[iv n], [iv n_1]]), (0, O.rows 5 false [[iv b.1, iv b.2, iv b.3, V.lst 2 (gl b.4), V.lst 1 (nl b.5)]])] 6 [])))) (ifB (n_1 != (0 : Int)) (ifB (n_1 != (0 : Int)) (R (V.tup [nilS, iv n_1])) (La 6 [(0 : Tmp), (1 : Tmp), (2 : Tmp)] (WY Try.prog cfIS 2991 (Env.mk (Bs.mk 0 (spared [] [V.yl (Id.p 5), V.ptr (Id.p 3) 0 0, V.ptr (Id.p 4) 0 0] ++ [])) 6 none 41 90 0) (cdAt [0, 0] (bodyOf Try.f90))) (Qblk 0 (QendX Try.prog Try.f90 fun v h' => kontY (WY Try.prog cfIS 2993) (Env.mk (Bs.mk 0 []) 0 none 64 24 0) (Qblk 0 (Qthen (WY Try.prog cfIS 2996 (Env.mk (Bs.mk 0 []) 0 none 64 24 0) (cdAt [1, 1, 1, 1] (bodyOf Try.f24)) (QendX Try.prog Try.f24 fun v h => R (frzW h v))) (QendX Try.prog Try.f24 fun v h => R (frzW h v)))) (mkT [(0, V.agg [iv b.1, iv b.2, iv b.3, V.lst 2 (gl b.4), V.lst 1 (nl b.5)]), (1, V.lst 3 (fdl l)), (2, V.ptr (Id.p 0) 0 0), (4, nilS), (5, iv (0 : Int)), (6, iv n_1), (7, V.ptr (Id.p 2) 0 0), (13, V.agg [iv b.1, iv b.2, iv b.3, V.lst 2 (gl b.4), V.lst 1 (nl b.5)]), (14, iv n), (15, V.lst 3 (fdl l)), (16, iv n_1), (17, V.sl (Id.p 1) 0 2), (18, iv n_1), (19, iv n_1), (20, bv (n_1 != (0 : Int))), (22, V.lst 3 (fdl l)), (23, V.ptr (Id.p 0) 0 2), (24, iv b.3), (25, V.fn (Fn.func 90) [] [V.ptr (Id.p 3) 0 0, V.ptr (Id.p 4) 0 0])]) 5 v (bif cfIS.clean 90 then gcH 6 v h' else h'))) (St.mk (mkT [(0, V.yl (Id.p 5)), (1, V.ptr (Id.p 3) 0 0), (2, V.ptr (Id.p 4) 0 0)]) (Hp.mk [(5, O.lp (Lr.mk LoopState.ready none (mkT [(0, V.agg [iv b.1, iv b.2, iv b.3, V.lst 2 (gl b.4), V.lst 1 (nl b.5)]), (1, V.lst 3 (fdl l)), (2, V.ptr (Id.p 0) 0 0), (4, nilS), (5, iv (0 : Int)), (6, iv n_1), (7, V.ptr (Id.p 2) 0 0), (13, V.agg [iv b.1, iv b.2, iv b.3, V.lst 2 (gl b.4), V.lst 1 (nl b.5)]), (14, iv n), (15, V.lst 3 (fdl l)), (16, iv n_1), (17, V.sl (Id.p 1) 0 2), (18, iv n_1), (19, iv n_1), (20, bv (n_1 != (0 : Int))), (22, V.lst 3 (fdl l)), (23, V.ptr (Id.p 0) 0 2), (24, iv b.3), (25, V.fn (Fn.func 90) [] [V.ptr (Id.p 3) 0 0, V.ptr (Id.p 4) 0 0])]) 64 (Array.mk [26]) (rfA (cdAt [1, 1, 1, 0, 1, 0] (bodyOf Try.f24))) (rfB (cdAt [1, 1, 1, 0, 1, 0] (bodyOf Try.f24))) 24)), (4, O.rows 1 false [[iv b.3]]), (3, O.rows 1 false [[V.lst 3 (fdl l)]]), (2, O.rows 1 false [[nilS]]), (1, O.rows 1 true [[iv n], [iv n_1]]), (0, O.rows 5 false [[iv b.1, iv b.2, iv b.3, V.lst 2 (gl b.4), V.lst 1 (nl b.5)]])] 6 [])))) (La 6 [(0 : Tmp), (1 : Tmp), (2 : Tmp)] (WY Try.prog cfIS 2991 (Env.mk (Bs.mk 0 (spared [] [V.yl (Id.p 5), V.ptr (Id.p 3) 0 0, V.ptr (Id.p 4) 0 0] ++ [])) 6 none 41 90 0) (cdAt [0, 0] (bodyOf Try.f90))) (Qblk 0 (QendX Try.prog Try.f90 fun v h' => kontY (WY Try.prog cfIS 2993) (Env.mk (Bs.mk 0 []) 0 none 64 24 0) (Qblk 0 (Qthen (WY Try.prog cfIS 2996 (Env.mk (Bs.mk 0 []) 0 none 64 24 0) (cdAt [1, 1, 1, 1] (bodyOf Try.f24)) (QendX Try.prog Try.f24 fun v h => R (frzW h v))) (QendX Try.prog Try.f24 fun v h => R (frzW h v)))) (mkT [(0, V.agg [iv b.1, iv b.2, iv b.3, V.lst 2 (gl b.4), V.lst 1 (nl b.5)]), (1, V.lst 3 (fdl l)), (2, V.ptr (Id.p 0) 0 0), (4, nilS), (5, iv (0 : Int)), (6, iv (0 : Int)), (7, V.ptr (Id.p 2) 0 0), (13, V.agg [iv b.1, iv b.2, iv b.3, V.lst 2 (gl b.4), V.lst 1 (nl b.5)]), (14, iv n), (15, V.lst 3 (fdl l)), (16, iv n_1), (17, V.sl (Id.p 1) 0 2), (18, iv (0 : Int)), (19, iv (0 : Int)), (20, bv false), (22, V.lst 3 (fdl l)), (23, V.ptr (Id.p 0) 0 2), (24, iv b.3), (25, V.fn (Fn.func 90) [] [V.ptr (Id.p 3) 0 0, V.ptr (Id.p 4) 0 0])]) 5 v (bif cfIS.clean 90 then gcH 6 v h' else h'))) (St.mk (mkT [(0, V.yl (Id.p 5)), (1, V.ptr (Id.p 3) 0 0), (2, V.ptr (Id.p 4) 0 0)]) (Hp.mk [(5, O.lp (Lr.mk LoopState.ready none (mkT [(0, V.agg [iv b.1, iv b.2, iv b.3, V.lst 2 (gl b.4), V.lst 1 (nl b.5)]), (1, V.lst 3 (fdl l)), (2, V.ptr (Id.p 0) 0 0), (4, nilS), (5, iv (0 : Int)), (6, iv (0 : Int)), (7, V.ptr (Id.p 2) 0 0), (13, V.agg [iv b.1, iv b.2, iv b.3, V.lst 2 (gl b.4), V.lst 1 (nl b.5)]), (14, iv n), (15, V.lst 3 (fdl l)), (16, iv n_1), (17, V.sl (Id.p 1) 0 2), (18, iv (0 : Int)), (19, iv (0 : Int)), (20, bv false), (22, V.lst 3 (fdl l)), (23, V.ptr (Id.p 0) 0 2), (24, iv b.3), (25, V.fn (Fn.func 90) [] [V.ptr (Id.p 3) 0 0, V.ptr (Id.p 4) 0 0])]) 64 (Array.mk [26]) (rfA (cdAt [1, 1, 1, 0, 1, 0] (bodyOf Try.f24))) (rfB (cdAt [1, 1, 1, 0, 1, 0] (bodyOf Try.f24))) 24)), (4, O.rows 1 false [[iv b.3]]), (3, O.rows 1 false [[V.lst 3 (fdl l)]]), (2, O.rows 1 false [[nilS]]), (1, O.rows 1 true [[iv n], [iv n_1]]), (0, O.rows 5 false [[iv b.1, iv b.2, iv b.3, V.lst 2 (gl b.4), V.lst 1 (nl b.5)]])] 6 []))))) = WY0 Try.prog cfIS 3000 24 Try.f24 [.agg (bel b), .lst 3 (fdl l)] R := by kernel_rfl
theorem swings24 {b : Bt} {l : List Fd} {R : V → Prop} (hbl : b.bins.length ≤ 1000) (hrl : Rl l) (h : R (swT b l)) : K0G Try.prog glX 24 [.agg (bel b), .lst 3 (fdl l)] R := by
  refine K0_by hmX hcIS 3000 Try.func24 (eq24 b l R) ?_
  have bad : ¬ (BtP b ∧ FdP l) → R (.tup [nilS, iv (askE b l)]) := fun hn => by rw [swT, if_neg (by rw [dc_f hn]; simp)] at h; exact h
  refine belt18 hbl ?_
  generalize hn : beltE b = n
  refine onIntK_iv (fed20 hrl ?_)
  generalize hn1 : fedE l = n_1
  refine onIntK_iv ?_
  by_cases hb : BtP b
  rotate_left
  · have hn90 : n = 90 := by rw [← hn, beltE, if_neg (by rw [dc_f hb]; simp)]
    have hb' := bad (fun hp => hb hp.1)
    rw [askE, if_neg (by rw [dc_f hb]; simp)] at hb'
    refine ifB_t (by rw [hn90]; rfl) (ifB_t (by rw [hn90]; rfl) ?_)
    rw [hn90]; exact hb'
  have hn0 : n = 0 := by rw [← hn, beltE, if_pos (dc_t hb)]
  refine ifB_f (by rw [hn0]; rfl) ?_
  by_cases hf : FdP l
  rotate_left
  · have hn91 : n_1 = 91 := by rw [← hn1, fedE, if_neg (by rw [dc_f hf]; simp)]
    have hb' := bad (fun hp => hf hp.2)
    rw [askE, if_pos (dc_t hb), hn1] at hb'
    refine ifB_t (by rw [hn91]; rfl) (ifB_t (by rw [hn91]; rfl) hb')
  have hn10 : n_1 = 0 := by rw [← hn1, fedE, if_pos (dc_t hf)]
  refine ifB_f (by rw [hn10]; rfl) ?_
  have h : R (.tup [lsW (swings b l), iv 0]) := by rw [swT, if_pos (dc_t ⟨hb, hf⟩)] at h; exact h
  have hS := hb.2.1
  have hS' := hb.2.2.1
  obtain ⟨hC1, hC2, hC3, hC4⟩ := hb.1
  clear hn hn1 bad
  refine La.of (σ := Bool × List Fd × List Sw) (fun s => sh24 b l n n_1 s) (fun s => swL b (clu b.S s.2.1) s.2.2 = swings b l ∧ (∀ x ∈ s.2.1, F1 x) ∧ s.2.2.length + 2 * s.2.1.length ≤ 80) (fun s => s.2.1.length) (true, l, []) (by kernel_rfl) ⟨rfl, hf.2.1, by have := hf.1; simp; omega⟩ ?_
  rintro ⟨fl, r, F⟩ ⟨i1, i2, i3⟩ J hJ
  simp only at i1 i2 i3
  have near_of : ∀ m, 1 ≤ m → m < r.length → (IntKind.i64.wrap ((fd r m).1 - (fd r (m - 1)).1) ≤ IntKind.i64.wrap (IntKind.i64.wrap ((2 : Int) * b.3) + (1 : Int)) ↔ nearP b.S r m) := fun m h1 h2 => by
    have a := i2 _ (mem_at (fd_get (l := r) (i := m) h2))
    have a' := i2 _ (mem_at (fd_get (l := r) (i := m - 1) (by omega)))
    have q1 := a.1; have q2 := a.2.1; have q3 := a'.1; have q4 := a'.2.1
    rw [wr (n := (fd r m).1 - (fd r (m - 1)).1) (by omega) (by omega), wr (n := 2 * b.S) (by omega) (by omega), wr (n := 2 * b.S + 1) (by omega) (by omega)]
    exact Iff.rfl
  have emp : r = [] → R (.tup [lsW F, iv 0]) := fun hr => by
    subst hr
    rw [← i1] at h
    exact h
  have head : ∀ m, 1 ≤ m → m ≤ r.length → (∀ j, 1 ≤ j → j < m → nearP b.S r j) → (m = r.length ∨ ¬ nearP b.S r m) → ∀ E, E = swC b F (r.take m) → J (sh24 b l n n_1 (false, r.drop m, E)) := fun m k1 k2 k3 hm E hE => by
    have hEl : E.length ≤ F.length + 2 := by
      rw [hE, swC]
      split
      · omega
      · rw [insF_length, insF_length]; omega
    refine hJ (false, r.drop m, E) ⟨?_, fun x hx => i2 x ((List.drop_sublist _ _).subset hx), by simp only [List.length_drop]; omega⟩ (by simp only [List.length_drop]; omega)
    rw [clu_take k1 k2 k3 hm] at i1
    simp only [hE]
    exact i1
  by_cases hF : F = []
  · cases fl with
    | true =>
    rw [show sh24 b l n n_1 (true, r, F) = st22 (nA b l n n_1 (fdl r)) from by subst hF; rfl]
    clear hJ
    refine see (p := ifB (decide ((↑(fdl r).length : Int) > (0 : Int))) (La 6 [(0 : Tmp), (1 : Tmp), (2 : Tmp), (4 : Tmp)] (WY Try.prog cfIS 2985 (Env.mk (Bs.mk 0 (spared [] [V.yl (Id.p 5), V.ptr (Id.p 3) 0 0, V.ptr (Id.p 4) 0 0] ++ [])) 6 none 41 90 2) (cdAt [0, 0, 1, 0, 1, 0, 0, 0] (bodyOf Try.f90))) (Qblk 2 (Qthen (WY Try.prog cfIS 2987 (Env.mk (Bs.mk 0 (spared [] [V.yl (Id.p 5), V.ptr (Id.p 3) 0 0, V.ptr (Id.p 4) 0 0] ++ [])) 6 none 41 90 1) (cdAt [0, 0, 1, 0, 1, 1] (bodyOf Try.f90)) (Qblk 1 (Qla 6 [(0 : Tmp), (1 : Tmp), (2 : Tmp)] J (Qblk 0 (QendX Try.prog Try.f90 fun v h' => kontY (WY Try.prog cfIS 2993) (Env.mk (Bs.mk 0 []) 0 none 64 24 0) (Qblk 0 (Qthen (WY Try.prog cfIS 2996 (Env.mk (Bs.mk 0 []) 0 none 64 24 0) (cdAt [1, 1, 1, 1] (bodyOf Try.f24)) (QendX Try.prog Try.f24 fun v h => R (frzW h v))) (QendX Try.prog Try.f24 fun v h => R (frzW h v)))) (mkT [(0, V.agg [iv b.1, iv b.2, iv b.3, V.lst 2 (gl b.4), V.lst 1 (nl b.5)]), (1, V.lst 3 (fdl l)), (2, V.ptr (Id.p 0) 0 0), (4, nilS), (5, iv (0 : Int)), (6, iv (0 : Int)), (7, V.ptr (Id.p 2) 0 0), (13, V.agg [iv b.1, iv b.2, iv b.3, V.lst 2 (gl b.4), V.lst 1 (nl b.5)]), (14, iv n), (15, V.lst 3 (fdl l)), (16, iv n_1), (17, V.sl (Id.p 1) 0 2), (18, iv (0 : Int)), (19, iv (0 : Int)), (20, bv false), (22, V.lst 3 (fdl l)), (23, V.ptr (Id.p 0) 0 2), (24, iv b.3), (25, V.fn (Fn.func 90) [] [V.ptr (Id.p 3) 0 0, V.ptr (Id.p 4) 0 0])]) 5 v (bif cfIS.clean 90 then gcH 6 v h' else h')))))) (Qblk 1 (Qla 6 [(0 : Tmp), (1 : Tmp), (2 : Tmp)] J (Qblk 0 (QendX Try.prog Try.f90 fun v h' => kontY (WY Try.prog cfIS 2993) (Env.mk (Bs.mk 0 []) 0 none 64 24 0) (Qblk 0 (Qthen (WY Try.prog cfIS 2996 (Env.mk (Bs.mk 0 []) 0 none 64 24 0) (cdAt [1, 1, 1, 1] (bodyOf Try.f24)) (QendX Try.prog Try.f24 fun v h => R (frzW h v))) (QendX Try.prog Try.f24 fun v h => R (frzW h v)))) (mkT [(0, V.agg [iv b.1, iv b.2, iv b.3, V.lst 2 (gl b.4), V.lst 1 (nl b.5)]), (1, V.lst 3 (fdl l)), (2, V.ptr (Id.p 0) 0 0), (4, nilS), (5, iv (0 : Int)), (6, iv (0 : Int)), (7, V.ptr (Id.p 2) 0 0), (13, V.agg [iv b.1, iv b.2, iv b.3, V.lst 2 (gl b.4), V.lst 1 (nl b.5)]), (14, iv n), (15, V.lst 3 (fdl l)), (16, iv n_1), (17, V.sl (Id.p 1) 0 2), (18, iv (0 : Int)), (19, iv (0 : Int)), (20, bv false), (22, V.lst 3 (fdl l)), (23, V.ptr (Id.p 0) 0 2), (24, iv b.3), (25, V.fn (Fn.func 90) [] [V.ptr (Id.p 3) 0 0, V.ptr (Id.p 4) 0 0])]) 5 v (bif cfIS.clean 90 then gcH 6 v h' else h'))))))) (St.mk (mkT [(0, V.yl (Id.p 5)), (1, V.ptr (Id.p 3) 0 0), (2, V.ptr (Id.p 4) 0 0), (4, iv (1 : Int))]) (Hp.mk [(5, O.lp (Lr.mk LoopState.ready none (mkT [(0, V.agg [iv b.1, iv b.2, iv b.3, V.lst 2 (gl b.4), V.lst 1 (nl b.5)]), (1, V.lst 3 (fdl l)), (2, V.ptr (Id.p 0) 0 0), (4, nilS), (5, iv (0 : Int)), (6, iv (0 : Int)), (7, V.ptr (Id.p 2) 0 0), (13, V.agg [iv b.1, iv b.2, iv b.3, V.lst 2 (gl b.4), V.lst 1 (nl b.5)]), (14, iv n), (15, V.lst 3 (fdl l)), (16, iv n_1), (17, V.sl (Id.p 1) 0 2), (18, iv (0 : Int)), (19, iv (0 : Int)), (20, bv false), (22, V.lst 3 (fdl l)), (23, V.ptr (Id.p 0) 0 2), (24, iv b.3), (25, V.fn (Fn.func (90 : FuncId)) [] [V.ptr (Id.p 3) 0 0, V.ptr (Id.p 4) 0 0])]) 64 (Array.mk [26]) (rfA (cdAt [1, 1, 1, 0, 1, 0] (bodyOf Try.f24))) (rfB (cdAt [1, 1, 1, 0, 1, 0] (bodyOf Try.f24))) 24)), (4, O.rows 1 false [[iv b.3]]), (3, O.rows 1 false [[V.lst 3 (fdl r)]]), (2, O.rows 1 false [[nilS]]), (1, O.rows 1 true [[iv n], [iv n_1]]), (0, O.rows 5 false [[iv b.1, iv b.2, iv b.3, V.lst 2 (gl b.4), V.lst 1 (nl b.5)]])] 6 []))) (R (V.tup [nilS, iv (0 : Int)]))) (by kernel_rfl) ?_
    refine ifB_mk (fun c0 => ?_) (fun c0 => ?_)
    rotate_left
    · have hr : r = [] := List.eq_nil_of_length_eq_zero (by rw [fdl_length] at c0; have := of_decide_eq_false c0; omega)
      have e := emp hr
      rw [hF] at e
      exact e
    have hpos : 0 < r.length := by rw [fdl_length] at c0; have := of_decide_eq_true c0; omega
    refine La.of (σ := Nat) (fun m => st90 m (nA b l n n_1 (fdl r))) (fun m => 1 ≤ m ∧ m ≤ r.length ∧ ∀ j, 1 ≤ j → j < m → nearP b.S r j) (fun m => r.length - m) 1 (by kernel_rfl) ⟨Nat.le_refl _, hpos, fun j a c => by omega⟩ ?_
    rintro m ⟨k1, k2, k3⟩ K hK
    have hne : r.take m ≠ [] := fun he => by have := congrArg List.length he; rw [List.length_take, List.length_nil] at this; omega
    have htl : (r.take m).length = m := by rw [List.length_take]; omega
    have h1' : ∀ x ∈ r.take m, F1 x := fun x hx => i2 x (mem_take hx)
    have hgo := sort_ok b (r.take m)
    have hcs := sub_fdl r m
    have hcl : (sub (fdl r) 0 (m - 0)).length = m := by rw [hcs, fdl_length, htl]
    have x0 := fd_get (l := r.take m) (i := 0) (by omega)
    have x1 := fd_get (l := r.take m) (i := m - 1) (by omega)
    have f0 := h1' _ (mem_at x0)
    have f1 := h1' _ (mem_at x1)
    have a1 := f0.1; have a2 := f0.2.1; have a3 := f1.1; have a4 := f1.2.1
    refine see (p := ifB (decide ((↑m : Int) < (↑(fdl r).length : Int))) (onSome (fdl r)[m]? fun row => onSome row[0]? fun v => onIntK IntKind.i64 v fun n_2 => onNat (IntKind.i64.wrap ((↑m : Int) - (1 : Int))) fun m_1 => onSome (fdl r)[m_1]? fun row => onSome row[0]? fun v => onIntK IntKind.i64 v fun n_3 => ifB (decide (IntKind.i64.wrap (n_2 - n_3) ≤ IntKind.i64.wrap (IntKind.i64.wrap ((2 : Int) * b.3) + (1 : Int)))) (K (St.mk (mkT [(0, V.yl (Id.p 5)), (1, V.ptr (Id.p 3) 0 0), (2, V.ptr (Id.p 4) 0 0), (4, iv (IntKind.i64.wrap ((↑m : Int) + (1 : Int))))]) (Hp.mk [(5, O.lp (Lr.mk LoopState.ready none (mkT [(0, V.agg [iv b.1, iv b.2, iv b.3, V.lst 2 (gl b.4), V.lst 1 (nl b.5)]), (1, V.lst 3 (fdl l)), (2, V.ptr (Id.p 0) 0 0), (4, nilS), (5, iv (0 : Int)), (6, iv (0 : Int)), (7, V.ptr (Id.p 2) 0 0), (13, V.agg [iv b.1, iv b.2, iv b.3, V.lst 2 (gl b.4), V.lst 1 (nl b.5)]), (14, iv n), (15, V.lst 3 (fdl l)), (16, iv n_1), (17, V.sl (Id.p 1) 0 2), (18, iv (0 : Int)), (19, iv (0 : Int)), (20, bv false), (22, V.lst 3 (fdl l)), (23, V.ptr (Id.p 0) 0 2), (24, iv b.3), (25, V.fn (Fn.func (90 : FuncId)) [] [V.ptr (Id.p 3) 0 0, V.ptr (Id.p 4) 0 0])]) 64 (Array.mk [26]) (rfA (cdAt [1, 1, 1, 0, 1, 0] (bodyOf Try.f24))) (rfB (cdAt [1, 1, 1, 0, 1, 0] (bodyOf Try.f24))) 24)), (4, O.rows 1 false [[iv b.3]]), (3, O.rows 1 false [[V.lst 3 (fdl r)]]), (2, O.rows 1 false [[nilS]]), (1, O.rows 1 true [[iv n], [iv n_1]]), (0, O.rows 5 false [[iv b.1, iv b.2, iv b.3, V.lst 2 (gl b.4), V.lst 1 (nl b.5)]])] 6 []))) (need (m ≤ (fdl r).length) (K0G Try.prog glX 59 [V.agg [iv b.1, iv b.2, iv b.3, V.lst 2 (gl b.4), V.lst 1 (nl b.5)], V.lst 3 (sub (fdl r) 0 (m - 0))] fun v => onIntK IntKind.i64 v fun n_4 => ifB (n_4 == (-1 : Int)) (need ((fdl r).length ≤ (fdl r).length) (need (m ≤ (fdl r).length) (J (St.mk (mkT [(0, V.yl (Id.p 5)), (1, V.ptr (Id.p 3) 0 0), (2, V.ptr (Id.p 4) 0 0)]) (Hp.mk [(3, O.rows 1 false [[V.lst 3 (sub (fdl r) m ((fdl r).length - m))]]), (5, O.lp (Lr.mk LoopState.ready none (mkT [(0, V.agg [iv b.1, iv b.2, iv b.3, V.lst 2 (gl b.4), V.lst 1 (nl b.5)]), (1, V.lst 3 (fdl l)), (2, V.ptr (Id.p 0) 0 0), (4, nilS), (5, iv (0 : Int)), (6, iv (0 : Int)), (7, V.ptr (Id.p 2) 0 0), (13, V.agg [iv b.1, iv b.2, iv b.3, V.lst 2 (gl b.4), V.lst 1 (nl b.5)]), (14, iv n), (15, V.lst 3 (fdl l)), (16, iv n_1), (17, V.sl (Id.p 1) 0 2), (18, iv (0 : Int)), (19, iv (0 : Int)), (20, bv false), (22, V.lst 3 (fdl l)), (23, V.ptr (Id.p 0) 0 2), (24, iv b.3), (25, V.fn (Fn.func (90 : FuncId)) [] [V.ptr (Id.p 3) 0 0, V.ptr (Id.p 4) 0 0])]) 64 (Array.mk [26]) (rfA (cdAt [1, 1, 1, 0, 1, 0] (bodyOf Try.f24))) (rfB (cdAt [1, 1, 1, 0, 1, 0] (bodyOf Try.f24))) 24)), (4, O.rows 1 false [[iv b.3]]), (2, O.rows 1 false [[nilS]]), (1, O.rows 1 true [[iv n], [iv n_1]]), (0, O.rows 5 false [[iv b.1, iv b.2, iv b.3, V.lst 2 (gl b.4), V.lst 1 (nl b.5)]])] 6 []))))) (onSome (sub (fdl r) 0 (m - 0))[0]? fun row => onCons (List.drop 0 row) fun u r_1 => onIntK IntKind.i64 u fun n_5 => onCons r_1 fun u r_2 => onIntK IntKind.i64 u fun n_6 => onCons r_2 fun u r_3 => onLst u fun s es => onNat (IntKind.i64.wrap ((↑(sub (fdl r) 0 (m - 0)).length : Int) - (1 : Int))) fun m_2 => onSome (sub (fdl r) 0 (m - 0))[m_2]? fun row => onCons (List.drop 0 row) fun u r_4 => onIntK IntKind.i64 u fun n_7 => onCons r_4 fun u r_5 => onIntK IntKind.i64 u fun n_8 => onCons r_5 fun u r_6 => onLst u fun s es => onNat n_4 fun m_3 => onSome (gl b.4)[m_3]? fun row => onSome row[0]? fun v => onIntK IntKind.i64 v fun n_9 => KM Try.prog glX 64 [nilS, V.agg [iv (IntKind.i64.wrap (IntKind.i64.wrap (n_5 + n_9) - b.3)), iv n_4, bv true], V.fn (Fn.func 65) [] []] (Hp.mk [] 0 []) (postI 64 [nilS, V.agg [iv (IntKind.i64.wrap (IntKind.i64.wrap (n_5 + n_9) - b.3)), iv n_4, bv true], V.fn (Fn.func 65) [] []]) fun v us => v = V.sl (Id.p 2) 0 1 ∧ KM Try.prog glX 64 [V.sl (Id.p 0) 0 1, V.agg [iv (IntKind.i64.wrap (IntKind.i64.wrap (n_7 + n_9) + (1 : Int))), iv n_4, bv false], V.fn (Fn.func 65) [] []] (Hp.mk [(0, O.rows 3 true (List.getD us 0 []))] 1 []) (postI 64 [V.sl (Id.p 12) 0 1, V.agg [iv (IntKind.i64.wrap (IntKind.i64.wrap (n_7 + n_9) + (1 : Int))), iv n_4, bv false], V.fn (Fn.func 65) [] []]) fun v us => v = V.sl (Id.p 3) 0 2 ∧ need ((fdl r).length ≤ (fdl r).length) (need (m ≤ (fdl r).length) (J (St.mk (mkT [(0, V.yl (Id.p 5)), (1, V.ptr (Id.p 3) 0 0), (2, V.ptr (Id.p 4) 0 0)]) (Hp.mk [(3, O.rows 1 false [[V.lst 3 (sub (fdl r) m ((fdl r).length - m))]]), (5, O.lp (Lr.mk LoopState.ready none (mkT [(0, V.agg [iv b.1, iv b.2, iv b.3, V.lst 2 (gl b.4), V.lst 1 (nl b.5)]), (1, V.lst 3 (fdl l)), (2, V.ptr (Id.p 0) 0 0), (4, nilS), (5, iv (0 : Int)), (6, iv (0 : Int)), (7, V.ptr (Id.p 2) 0 0), (13, V.agg [iv b.1, iv b.2, iv b.3, V.lst 2 (gl b.4), V.lst 1 (nl b.5)]), (14, iv n), (15, V.lst 3 (fdl l)), (16, iv n_1), (17, V.sl (Id.p 1) 0 2), (18, iv (0 : Int)), (19, iv (0 : Int)), (20, bv false), (22, V.lst 3 (fdl l)), (23, V.ptr (Id.p 0) 0 2), (24, iv b.3), (25, V.fn (Fn.func (90 : FuncId)) [] [V.ptr (Id.p 3) 0 0, V.ptr (Id.p 4) 0 0])]) 64 (Array.mk [26]) (rfA (cdAt [1, 1, 1, 0, 1, 0] (bodyOf Try.f24))) (rfB (cdAt [1, 1, 1, 0, 1, 0] (bodyOf Try.f24))) 24)), (2, O.rows 1 false [[V.sl (Id.p 6) 0 2]]), (4, O.rows 1 false [[iv b.3]]), (1, O.rows 1 true [[iv n], [iv n_1]]), (0, O.rows 5 false [[iv b.1, iv b.2, iv b.3, V.lst 2 (gl b.4), V.lst 1 (nl b.5)]]), (6, O.rows 3 true (List.getD us 0 []))] 7 [])))))))) (need (m ≤ (fdl r).length) (K0G Try.prog glX 59 [V.agg [iv b.1, iv b.2, iv b.3, V.lst 2 (gl b.4), V.lst 1 (nl b.5)], V.lst 3 (sub (fdl r) 0 (m - 0))] fun v => onIntK IntKind.i64 v fun n_2 => ifB (n_2 == (-1 : Int)) (need ((fdl r).length ≤ (fdl r).length) (need (m ≤ (fdl r).length) (J (St.mk (mkT [(0, V.yl (Id.p 5)), (1, V.ptr (Id.p 3) 0 0), (2, V.ptr (Id.p 4) 0 0)]) (Hp.mk [(3, O.rows 1 false [[V.lst 3 (sub (fdl r) m ((fdl r).length - m))]]), (5, O.lp (Lr.mk LoopState.ready none (mkT [(0, V.agg [iv b.1, iv b.2, iv b.3, V.lst 2 (gl b.4), V.lst 1 (nl b.5)]), (1, V.lst 3 (fdl l)), (2, V.ptr (Id.p 0) 0 0), (4, nilS), (5, iv (0 : Int)), (6, iv (0 : Int)), (7, V.ptr (Id.p 2) 0 0), (13, V.agg [iv b.1, iv b.2, iv b.3, V.lst 2 (gl b.4), V.lst 1 (nl b.5)]), (14, iv n), (15, V.lst 3 (fdl l)), (16, iv n_1), (17, V.sl (Id.p 1) 0 2), (18, iv (0 : Int)), (19, iv (0 : Int)), (20, bv false), (22, V.lst 3 (fdl l)), (23, V.ptr (Id.p 0) 0 2), (24, iv b.3), (25, V.fn (Fn.func (90 : FuncId)) [] [V.ptr (Id.p 3) 0 0, V.ptr (Id.p 4) 0 0])]) 64 (Array.mk [26]) (rfA (cdAt [1, 1, 1, 0, 1, 0] (bodyOf Try.f24))) (rfB (cdAt [1, 1, 1, 0, 1, 0] (bodyOf Try.f24))) 24)), (4, O.rows 1 false [[iv b.3]]), (2, O.rows 1 false [[nilS]]), (1, O.rows 1 true [[iv n], [iv n_1]]), (0, O.rows 5 false [[iv b.1, iv b.2, iv b.3, V.lst 2 (gl b.4), V.lst 1 (nl b.5)]])] 6 []))))) (onSome (sub (fdl r) 0 (m - 0))[0]? fun row => onCons (List.drop 0 row) fun u r_1 => onIntK IntKind.i64 u fun n_3 => onCons r_1 fun u r_2 => onIntK IntKind.i64 u fun n_4 => onCons r_2 fun u r_3 => onLst u fun s es => onNat (IntKind.i64.wrap ((↑(sub (fdl r) 0 (m - 0)).length : Int) - (1 : Int))) fun m_1 => onSome (sub (fdl r) 0 (m - 0))[m_1]? fun row => onCons (List.drop 0 row) fun u r_4 => onIntK IntKind.i64 u fun n_5 => onCons r_4 fun u r_5 => onIntK IntKind.i64 u fun n_6 => onCons r_5 fun u r_6 => onLst u fun s es => onNat n_2 fun m_2 => onSome (gl b.4)[m_2]? fun row => onSome row[0]? fun v => onIntK IntKind.i64 v fun n_7 => KM Try.prog glX 64 [nilS, V.agg [iv (IntKind.i64.wrap (IntKind.i64.wrap (n_3 + n_7) - b.3)), iv n_2, bv true], V.fn (Fn.func 65) [] []] (Hp.mk [] 0 []) (postI 64 [nilS, V.agg [iv (IntKind.i64.wrap (IntKind.i64.wrap (n_3 + n_7) - b.3)), iv n_2, bv true], V.fn (Fn.func 65) [] []]) fun v us => v = V.sl (Id.p 2) 0 1 ∧ KM Try.prog glX 64 [V.sl (Id.p 0) 0 1, V.agg [iv (IntKind.i64.wrap (IntKind.i64.wrap (n_5 + n_7) + (1 : Int))), iv n_2, bv false], V.fn (Fn.func 65) [] []] (Hp.mk [(0, O.rows 3 true (List.getD us 0 []))] 1 []) (postI 64 [V.sl (Id.p 12) 0 1, V.agg [iv (IntKind.i64.wrap (IntKind.i64.wrap (n_5 + n_7) + (1 : Int))), iv n_2, bv false], V.fn (Fn.func 65) [] []]) fun v us => v = V.sl (Id.p 3) 0 2 ∧ need ((fdl r).length ≤ (fdl r).length) (need (m ≤ (fdl r).length) (J (St.mk (mkT [(0, V.yl (Id.p 5)), (1, V.ptr (Id.p 3) 0 0), (2, V.ptr (Id.p 4) 0 0)]) (Hp.mk [(3, O.rows 1 false [[V.lst 3 (sub (fdl r) m ((fdl r).length - m))]]), (5, O.lp (Lr.mk LoopState.ready none (mkT [(0, V.agg [iv b.1, iv b.2, iv b.3, V.lst 2 (gl b.4), V.lst 1 (nl b.5)]), (1, V.lst 3 (fdl l)), (2, V.ptr (Id.p 0) 0 0), (4, nilS), (5, iv (0 : Int)), (6, iv (0 : Int)), (7, V.ptr (Id.p 2) 0 0), (13, V.agg [iv b.1, iv b.2, iv b.3, V.lst 2 (gl b.4), V.lst 1 (nl b.5)]), (14, iv n), (15, V.lst 3 (fdl l)), (16, iv n_1), (17, V.sl (Id.p 1) 0 2), (18, iv (0 : Int)), (19, iv (0 : Int)), (20, bv false), (22, V.lst 3 (fdl l)), (23, V.ptr (Id.p 0) 0 2), (24, iv b.3), (25, V.fn (Fn.func (90 : FuncId)) [] [V.ptr (Id.p 3) 0 0, V.ptr (Id.p 4) 0 0])]) 64 (Array.mk [26]) (rfA (cdAt [1, 1, 1, 0, 1, 0] (bodyOf Try.f24))) (rfB (cdAt [1, 1, 1, 0, 1, 0] (bodyOf Try.f24))) 24)), (2, O.rows 1 false [[V.sl (Id.p 6) 0 2]]), (4, O.rows 1 false [[iv b.3]]), (1, O.rows 1 true [[iv n], [iv n_1]]), (0, O.rows 5 false [[iv b.1, iv b.2, iv b.3, V.lst 2 (gl b.4), V.lst 1 (nl b.5)]]), (6, O.rows 3 true (List.getD us 0 []))] 7 [])))))))) (by kernel_rfl) ?_
    refine ifB_mk (fun c1 => ?_) (fun c1 => ?_)
    · have hlt : m < r.length := by rw [fdl_length] at c1; have := of_decide_eq_true c1; omega
      have hnr0 := near_of m k1 hlt
      refine fel0 (fd_get hlt) ?_
      refine onNat_mk (m := m - 1) (by rw [wr (by omega) (by omega)]; omega) ?_
      refine fel0 (fd_get (l := r) (i := m - 1) (by omega)) ?_
      refine ifB_mk (fun c2 => ?_) (fun c2 => ?_)
      · have hnr := hnr0.1 (of_decide_eq_true c2)
        rw [wr1i hlt (by omega)]
        exact hK (m + 1) ⟨by omega, hlt, fun j a c => by
          rcases Nat.lt_succ_iff_lt_or_eq.1 c with e | e
          · exact k3 j a e
          · rw [e]; exact hnr⟩ (by omega)
      · have hnr : ¬ nearP b.S r m := fun hp => absurd (hnr0.2 hp) (of_decide_eq_false c2)
        have hm := head m k1 k2 k3 (.inr hnr)
        refine need_mk ⟨by rw [fdl_length]; omega, ?_⟩
        refine sorted59' hcs hb hne (by omega) h1' ?_
        generalize hg : sortF b (r.take m) = g at hgo
        refine onIntK_iv (ifB_mk (fun e1 => ?_) (fun e1 => ?_))
        · refine need_mk ⟨Nat.le_refl _, need_mk ⟨by rw [fdl_length]; omega, ?_⟩⟩
          rw [sub_fdl']
          have g := hm F (by rw [swC, if_pos (by rw [hg]; simpa using e1)])
          rw [hF] at g
          exact g
        · obtain ⟨i, hgi, hi⟩ := hgo.resolve_left (by simpa using e1)
          have hgm := hb.2.2.2.2.1.1 _ (mem_at (gt_get hi))
          have q1 := hgm.1; have q2 := hgm.2.1
          have hgt : gt b g = gt b i := by rw [hgi]
          refine felc hcs x0 ?_
          rw [hcl]
          refine onNat_mk (m := m - 1) (by rw [wr (by omega) (by omega)]; omega) (felc hcs x1 (onNat_mk hgi (gel0 (gt_get hi) ?_)))
          rw [wr (n := (fd (r.take m) 0).1 + (gt b i).1) (by omega) (by omega), wr (n := (fd (r.take m) 0).1 + (gt b i).1 - b.S) (by omega) (by omega), wr (n := (fd (r.take m) (m - 1)).1 + (gt b i).1) (by omega) (by omega), wr (n := (fd (r.take m) (m - 1)).1 + (gt b i).1 + 1) (by omega) (by omega)]
          have hx : outS b (r.take m) g = ((fd (r.take m) 0).1 + (gt b i).1 - b.S, g, true) := by rw [outS, hgt]
          have hy : backS b (r.take m) g = ((fd (r.take m) (m - 1)).1 + (gt b i).1 + 1, g, false) := by rw [backS, hgt, htl]
          have hE := hm (insF (insF F ((fd (r.take m) 0).1 + (gt b i).1 - b.S, g, true)) ((fd (r.take m) (m - 1)).1 + (gt b i).1 + 1, g, false)) (by rw [swC, if_neg (by rw [hg]; simpa using e1), hg, hx, hy])
          rw [sh24_c (ins_ne _ _)] at hE
          rw [hF] at hE
          refine ins64n (x := ((fd (r.take m) 0).1 + (gt b i).1 - b.S, g, true)) ⟨rfl, ?_⟩
          refine ins64 (l := insF [] ((fd (r.take m) 0).1 + (gt b i).1 - b.S, g, true)) (x := ((fd (r.take m) (m - 1)).1 + (gt b i).1 + 1, g, false)) rfl (by rw [insF_length]; rfl) (by rw [insF_length]; simp) ⟨rfl, ?_⟩
          refine need_mk ⟨Nat.le_refl _, need_mk ⟨by rw [fdl_length]; omega, ?_⟩⟩
          rw [sub_fdl']
          refine hJ' ?_ hE
          simp only [st22, nC, insF_length]
          rfl
    · have hge : m = r.length := by rw [fdl_length] at c1; have := of_decide_eq_false c1; omega
      have hm := head m k1 k2 k3 (.inl hge)
      refine need_mk ⟨by rw [fdl_length]; omega, ?_⟩
      refine sorted59' hcs hb hne (by omega) h1' ?_
      generalize hg : sortF b (r.take m) = g at hgo
      refine onIntK_iv (ifB_mk (fun e1 => ?_) (fun e1 => ?_))
      · refine need_mk ⟨Nat.le_refl _, need_mk ⟨by rw [fdl_length]; omega, ?_⟩⟩
        rw [sub_fdl']
        have g := hm F (by rw [swC, if_pos (by rw [hg]; simpa using e1)])
        rw [hF] at g
        exact g
      · obtain ⟨i, hgi, hi⟩ := hgo.resolve_left (by simpa using e1)
        have hgm := hb.2.2.2.2.1.1 _ (mem_at (gt_get hi))
        have q1 := hgm.1; have q2 := hgm.2.1
        have hgt : gt b g = gt b i := by rw [hgi]
        refine felc hcs x0 ?_
        rw [hcl]
        refine onNat_mk (m := m - 1) (by rw [wr (by omega) (by omega)]; omega) (felc hcs x1 (onNat_mk hgi (gel0 (gt_get hi) ?_)))
        rw [wr (n := (fd (r.take m) 0).1 + (gt b i).1) (by omega) (by omega), wr (n := (fd (r.take m) 0).1 + (gt b i).1 - b.S) (by omega) (by omega), wr (n := (fd (r.take m) (m - 1)).1 + (gt b i).1) (by omega) (by omega), wr (n := (fd (r.take m) (m - 1)).1 + (gt b i).1 + 1) (by omega) (by omega)]
        have hx : outS b (r.take m) g = ((fd (r.take m) 0).1 + (gt b i).1 - b.S, g, true) := by rw [outS, hgt]
        have hy : backS b (r.take m) g = ((fd (r.take m) (m - 1)).1 + (gt b i).1 + 1, g, false) := by rw [backS, hgt, htl]
        have hE := hm (insF (insF F ((fd (r.take m) 0).1 + (gt b i).1 - b.S, g, true)) ((fd (r.take m) (m - 1)).1 + (gt b i).1 + 1, g, false)) (by rw [swC, if_neg (by rw [hg]; simpa using e1), hg, hx, hy])
        rw [sh24_c (ins_ne _ _)] at hE
        rw [hF] at hE
        refine ins64n (x := ((fd (r.take m) 0).1 + (gt b i).1 - b.S, g, true)) ⟨rfl, ?_⟩
        refine ins64 (l := insF [] ((fd (r.take m) 0).1 + (gt b i).1 - b.S, g, true)) (x := ((fd (r.take m) (m - 1)).1 + (gt b i).1 + 1, g, false)) rfl (by rw [insF_length]; rfl) (by rw [insF_length]; simp) ⟨rfl, ?_⟩
        refine need_mk ⟨Nat.le_refl _, need_mk ⟨by rw [fdl_length]; omega, ?_⟩⟩
        rw [sub_fdl']
        refine hJ' ?_ hE
        simp only [st22, nC, insF_length]
        rfl
    | false =>
    rw [show sh24 b l n n_1 (false, r, F) = st22 (nB b l n n_1 (fdl r)) from by subst hF; rfl]
    clear hJ
    refine see (p := ifB (decide ((↑(fdl r).length : Int) > (0 : Int))) (La 6 [(0 : Tmp), (1 : Tmp), (2 : Tmp), (4 : Tmp)] (WY Try.prog cfIS 2985 (Env.mk (Bs.mk 0 (spared [] [V.yl (Id.p 5), V.ptr (Id.p 3) 0 0, V.ptr (Id.p 4) 0 0] ++ [])) 6 none 41 90 2) (cdAt [0, 0, 1, 0, 1, 0, 0, 0] (bodyOf Try.f90))) (Qblk 2 (Qthen (WY Try.prog cfIS 2987 (Env.mk (Bs.mk 0 (spared [] [V.yl (Id.p 5), V.ptr (Id.p 3) 0 0, V.ptr (Id.p 4) 0 0] ++ [])) 6 none 41 90 1) (cdAt [0, 0, 1, 0, 1, 1] (bodyOf Try.f90)) (Qblk 1 (Qla 6 [(0 : Tmp), (1 : Tmp), (2 : Tmp)] J (Qblk 0 (QendX Try.prog Try.f90 fun v h' => kontY (WY Try.prog cfIS 2993) (Env.mk (Bs.mk 0 []) 0 none 64 24 0) (Qblk 0 (Qthen (WY Try.prog cfIS 2996 (Env.mk (Bs.mk 0 []) 0 none 64 24 0) (cdAt [1, 1, 1, 1] (bodyOf Try.f24)) (QendX Try.prog Try.f24 fun v h => R (frzW h v))) (QendX Try.prog Try.f24 fun v h => R (frzW h v)))) (mkT [(0, V.agg [iv b.1, iv b.2, iv b.3, V.lst 2 (gl b.4), V.lst 1 (nl b.5)]), (1, V.lst 3 (fdl l)), (2, V.ptr (Id.p 0) 0 0), (4, nilS), (5, iv (0 : Int)), (6, iv (0 : Int)), (7, V.ptr (Id.p 2) 0 0), (13, V.agg [iv b.1, iv b.2, iv b.3, V.lst 2 (gl b.4), V.lst 1 (nl b.5)]), (14, iv n), (15, V.lst 3 (fdl l)), (16, iv n_1), (17, V.sl (Id.p 1) 0 2), (18, iv (0 : Int)), (19, iv (0 : Int)), (20, bv false), (22, V.lst 3 (fdl l)), (23, V.ptr (Id.p 0) 0 2), (24, iv b.3), (25, V.fn (Fn.func 90) [] [V.ptr (Id.p 3) 0 0, V.ptr (Id.p 4) 0 0])]) 5 v (bif cfIS.clean 90 then gcH 6 v h' else h')))))) (Qblk 1 (Qla 6 [(0 : Tmp), (1 : Tmp), (2 : Tmp)] J (Qblk 0 (QendX Try.prog Try.f90 fun v h' => kontY (WY Try.prog cfIS 2993) (Env.mk (Bs.mk 0 []) 0 none 64 24 0) (Qblk 0 (Qthen (WY Try.prog cfIS 2996 (Env.mk (Bs.mk 0 []) 0 none 64 24 0) (cdAt [1, 1, 1, 1] (bodyOf Try.f24)) (QendX Try.prog Try.f24 fun v h => R (frzW h v))) (QendX Try.prog Try.f24 fun v h => R (frzW h v)))) (mkT [(0, V.agg [iv b.1, iv b.2, iv b.3, V.lst 2 (gl b.4), V.lst 1 (nl b.5)]), (1, V.lst 3 (fdl l)), (2, V.ptr (Id.p 0) 0 0), (4, nilS), (5, iv (0 : Int)), (6, iv (0 : Int)), (7, V.ptr (Id.p 2) 0 0), (13, V.agg [iv b.1, iv b.2, iv b.3, V.lst 2 (gl b.4), V.lst 1 (nl b.5)]), (14, iv n), (15, V.lst 3 (fdl l)), (16, iv n_1), (17, V.sl (Id.p 1) 0 2), (18, iv (0 : Int)), (19, iv (0 : Int)), (20, bv false), (22, V.lst 3 (fdl l)), (23, V.ptr (Id.p 0) 0 2), (24, iv b.3), (25, V.fn (Fn.func 90) [] [V.ptr (Id.p 3) 0 0, V.ptr (Id.p 4) 0 0])]) 5 v (bif cfIS.clean 90 then gcH 6 v h' else h'))))))) (St.mk (mkT [(0, V.yl (Id.p 5)), (1, V.ptr (Id.p 3) 0 0), (2, V.ptr (Id.p 4) 0 0), (4, iv (1 : Int))]) (Hp.mk [(3, O.rows 1 false [[V.lst 3 (fdl r)]]), (5, O.lp (Lr.mk LoopState.ready none (mkT [(0, V.agg [iv b.1, iv b.2, iv b.3, V.lst 2 (gl b.4), V.lst 1 (nl b.5)]), (1, V.lst 3 (fdl l)), (2, V.ptr (Id.p 0) 0 0), (4, nilS), (5, iv (0 : Int)), (6, iv (0 : Int)), (7, V.ptr (Id.p 2) 0 0), (13, V.agg [iv b.1, iv b.2, iv b.3, V.lst 2 (gl b.4), V.lst 1 (nl b.5)]), (14, iv n), (15, V.lst 3 (fdl l)), (16, iv n_1), (17, V.sl (Id.p 1) 0 2), (18, iv (0 : Int)), (19, iv (0 : Int)), (20, bv false), (22, V.lst 3 (fdl l)), (23, V.ptr (Id.p 0) 0 2), (24, iv b.3), (25, V.fn (Fn.func (90 : FuncId)) [] [V.ptr (Id.p 3) 0 0, V.ptr (Id.p 4) 0 0])]) 64 (Array.mk [26]) (rfA (cdAt [1, 1, 1, 0, 1, 0] (bodyOf Try.f24))) (rfB (cdAt [1, 1, 1, 0, 1, 0] (bodyOf Try.f24))) 24)), (4, O.rows 1 false [[iv b.3]]), (2, O.rows 1 false [[nilS]]), (1, O.rows 1 true [[iv n], [iv n_1]]), (0, O.rows 5 false [[iv b.1, iv b.2, iv b.3, V.lst 2 (gl b.4), V.lst 1 (nl b.5)]])] 6 []))) (R (V.tup [nilS, iv (0 : Int)]))) (by kernel_rfl) ?_
    refine ifB_mk (fun c0 => ?_) (fun c0 => ?_)
    rotate_left
    · have hr : r = [] := List.eq_nil_of_length_eq_zero (by rw [fdl_length] at c0; have := of_decide_eq_false c0; omega)
      have e := emp hr
      rw [hF] at e
      exact e
    have hpos : 0 < r.length := by rw [fdl_length] at c0; have := of_decide_eq_true c0; omega
    refine La.of (σ := Nat) (fun m => st90 m (nB b l n n_1 (fdl r))) (fun m => 1 ≤ m ∧ m ≤ r.length ∧ ∀ j, 1 ≤ j → j < m → nearP b.S r j) (fun m => r.length - m) 1 (by kernel_rfl) ⟨Nat.le_refl _, hpos, fun j a c => by omega⟩ ?_
    rintro m ⟨k1, k2, k3⟩ K hK
    have hne : r.take m ≠ [] := fun he => by have := congrArg List.length he; rw [List.length_take, List.length_nil] at this; omega
    have htl : (r.take m).length = m := by rw [List.length_take]; omega
    have h1' : ∀ x ∈ r.take m, F1 x := fun x hx => i2 x (mem_take hx)
    have hgo := sort_ok b (r.take m)
    have hcs := sub_fdl r m
    have hcl : (sub (fdl r) 0 (m - 0)).length = m := by rw [hcs, fdl_length, htl]
    have x0 := fd_get (l := r.take m) (i := 0) (by omega)
    have x1 := fd_get (l := r.take m) (i := m - 1) (by omega)
    have f0 := h1' _ (mem_at x0)
    have f1 := h1' _ (mem_at x1)
    have a1 := f0.1; have a2 := f0.2.1; have a3 := f1.1; have a4 := f1.2.1
    refine see (p := ifB (decide ((↑m : Int) < (↑(fdl r).length : Int))) (onSome (fdl r)[m]? fun row => onSome row[0]? fun v => onIntK IntKind.i64 v fun n_2 => onNat (IntKind.i64.wrap ((↑m : Int) - (1 : Int))) fun m_1 => onSome (fdl r)[m_1]? fun row => onSome row[0]? fun v => onIntK IntKind.i64 v fun n_3 => ifB (decide (IntKind.i64.wrap (n_2 - n_3) ≤ IntKind.i64.wrap (IntKind.i64.wrap ((2 : Int) * b.3) + (1 : Int)))) (K (St.mk (mkT [(0, V.yl (Id.p 5)), (1, V.ptr (Id.p 3) 0 0), (2, V.ptr (Id.p 4) 0 0), (4, iv (IntKind.i64.wrap ((↑m : Int) + (1 : Int))))]) (Hp.mk [(3, O.rows 1 false [[V.lst 3 (fdl r)]]), (5, O.lp (Lr.mk LoopState.ready none (mkT [(0, V.agg [iv b.1, iv b.2, iv b.3, V.lst 2 (gl b.4), V.lst 1 (nl b.5)]), (1, V.lst 3 (fdl l)), (2, V.ptr (Id.p 0) 0 0), (4, nilS), (5, iv (0 : Int)), (6, iv (0 : Int)), (7, V.ptr (Id.p 2) 0 0), (13, V.agg [iv b.1, iv b.2, iv b.3, V.lst 2 (gl b.4), V.lst 1 (nl b.5)]), (14, iv n), (15, V.lst 3 (fdl l)), (16, iv n_1), (17, V.sl (Id.p 1) 0 2), (18, iv (0 : Int)), (19, iv (0 : Int)), (20, bv false), (22, V.lst 3 (fdl l)), (23, V.ptr (Id.p 0) 0 2), (24, iv b.3), (25, V.fn (Fn.func (90 : FuncId)) [] [V.ptr (Id.p 3) 0 0, V.ptr (Id.p 4) 0 0])]) 64 (Array.mk [26]) (rfA (cdAt [1, 1, 1, 0, 1, 0] (bodyOf Try.f24))) (rfB (cdAt [1, 1, 1, 0, 1, 0] (bodyOf Try.f24))) 24)), (4, O.rows 1 false [[iv b.3]]), (2, O.rows 1 false [[nilS]]), (1, O.rows 1 true [[iv n], [iv n_1]]), (0, O.rows 5 false [[iv b.1, iv b.2, iv b.3, V.lst 2 (gl b.4), V.lst 1 (nl b.5)]])] 6 []))) (need (m ≤ (fdl r).length) (K0G Try.prog glX 59 [V.agg [iv b.1, iv b.2, iv b.3, V.lst 2 (gl b.4), V.lst 1 (nl b.5)], V.lst 3 (sub (fdl r) 0 (m - 0))] fun v => onIntK IntKind.i64 v fun n_4 => ifB (n_4 == (-1 : Int)) (need ((fdl r).length ≤ (fdl r).length) (need (m ≤ (fdl r).length) (J (St.mk (mkT [(0, V.yl (Id.p 5)), (1, V.ptr (Id.p 3) 0 0), (2, V.ptr (Id.p 4) 0 0)]) (Hp.mk [(3, O.rows 1 false [[V.lst 3 (sub (fdl r) m ((fdl r).length - m))]]), (5, O.lp (Lr.mk LoopState.ready none (mkT [(0, V.agg [iv b.1, iv b.2, iv b.3, V.lst 2 (gl b.4), V.lst 1 (nl b.5)]), (1, V.lst 3 (fdl l)), (2, V.ptr (Id.p 0) 0 0), (4, nilS), (5, iv (0 : Int)), (6, iv (0 : Int)), (7, V.ptr (Id.p 2) 0 0), (13, V.agg [iv b.1, iv b.2, iv b.3, V.lst 2 (gl b.4), V.lst 1 (nl b.5)]), (14, iv n), (15, V.lst 3 (fdl l)), (16, iv n_1), (17, V.sl (Id.p 1) 0 2), (18, iv (0 : Int)), (19, iv (0 : Int)), (20, bv false), (22, V.lst 3 (fdl l)), (23, V.ptr (Id.p 0) 0 2), (24, iv b.3), (25, V.fn (Fn.func (90 : FuncId)) [] [V.ptr (Id.p 3) 0 0, V.ptr (Id.p 4) 0 0])]) 64 (Array.mk [26]) (rfA (cdAt [1, 1, 1, 0, 1, 0] (bodyOf Try.f24))) (rfB (cdAt [1, 1, 1, 0, 1, 0] (bodyOf Try.f24))) 24)), (4, O.rows 1 false [[iv b.3]]), (2, O.rows 1 false [[nilS]]), (1, O.rows 1 true [[iv n], [iv n_1]]), (0, O.rows 5 false [[iv b.1, iv b.2, iv b.3, V.lst 2 (gl b.4), V.lst 1 (nl b.5)]])] 6 []))))) (onSome (sub (fdl r) 0 (m - 0))[0]? fun row => onCons (List.drop 0 row) fun u r_1 => onIntK IntKind.i64 u fun n_5 => onCons r_1 fun u r_2 => onIntK IntKind.i64 u fun n_6 => onCons r_2 fun u r_3 => onLst u fun s es => onNat (IntKind.i64.wrap ((↑(sub (fdl r) 0 (m - 0)).length : Int) - (1 : Int))) fun m_2 => onSome (sub (fdl r) 0 (m - 0))[m_2]? fun row => onCons (List.drop 0 row) fun u r_4 => onIntK IntKind.i64 u fun n_7 => onCons r_4 fun u r_5 => onIntK IntKind.i64 u fun n_8 => onCons r_5 fun u r_6 => onLst u fun s es => onNat n_4 fun m_3 => onSome (gl b.4)[m_3]? fun row => onSome row[0]? fun v => onIntK IntKind.i64 v fun n_9 => KM Try.prog glX 64 [nilS, V.agg [iv (IntKind.i64.wrap (IntKind.i64.wrap (n_5 + n_9) - b.3)), iv n_4, bv true], V.fn (Fn.func 65) [] []] (Hp.mk [] 0 []) (postI 64 [nilS, V.agg [iv (IntKind.i64.wrap (IntKind.i64.wrap (n_5 + n_9) - b.3)), iv n_4, bv true], V.fn (Fn.func 65) [] []]) fun v us => v = V.sl (Id.p 2) 0 1 ∧ KM Try.prog glX 64 [V.sl (Id.p 0) 0 1, V.agg [iv (IntKind.i64.wrap (IntKind.i64.wrap (n_7 + n_9) + (1 : Int))), iv n_4, bv false], V.fn (Fn.func 65) [] []] (Hp.mk [(0, O.rows 3 true (List.getD us 0 []))] 1 []) (postI 64 [V.sl (Id.p 12) 0 1, V.agg [iv (IntKind.i64.wrap (IntKind.i64.wrap (n_7 + n_9) + (1 : Int))), iv n_4, bv false], V.fn (Fn.func 65) [] []]) fun v us => v = V.sl (Id.p 3) 0 2 ∧ need ((fdl r).length ≤ (fdl r).length) (need (m ≤ (fdl r).length) (J (St.mk (mkT [(0, V.yl (Id.p 5)), (1, V.ptr (Id.p 3) 0 0), (2, V.ptr (Id.p 4) 0 0)]) (Hp.mk [(3, O.rows 1 false [[V.lst 3 (sub (fdl r) m ((fdl r).length - m))]]), (5, O.lp (Lr.mk LoopState.ready none (mkT [(0, V.agg [iv b.1, iv b.2, iv b.3, V.lst 2 (gl b.4), V.lst 1 (nl b.5)]), (1, V.lst 3 (fdl l)), (2, V.ptr (Id.p 0) 0 0), (4, nilS), (5, iv (0 : Int)), (6, iv (0 : Int)), (7, V.ptr (Id.p 2) 0 0), (13, V.agg [iv b.1, iv b.2, iv b.3, V.lst 2 (gl b.4), V.lst 1 (nl b.5)]), (14, iv n), (15, V.lst 3 (fdl l)), (16, iv n_1), (17, V.sl (Id.p 1) 0 2), (18, iv (0 : Int)), (19, iv (0 : Int)), (20, bv false), (22, V.lst 3 (fdl l)), (23, V.ptr (Id.p 0) 0 2), (24, iv b.3), (25, V.fn (Fn.func (90 : FuncId)) [] [V.ptr (Id.p 3) 0 0, V.ptr (Id.p 4) 0 0])]) 64 (Array.mk [26]) (rfA (cdAt [1, 1, 1, 0, 1, 0] (bodyOf Try.f24))) (rfB (cdAt [1, 1, 1, 0, 1, 0] (bodyOf Try.f24))) 24)), (2, O.rows 1 false [[V.sl (Id.p 6) 0 2]]), (4, O.rows 1 false [[iv b.3]]), (1, O.rows 1 true [[iv n], [iv n_1]]), (0, O.rows 5 false [[iv b.1, iv b.2, iv b.3, V.lst 2 (gl b.4), V.lst 1 (nl b.5)]]), (6, O.rows 3 true (List.getD us 0 []))] 7 [])))))))) (need (m ≤ (fdl r).length) (K0G Try.prog glX 59 [V.agg [iv b.1, iv b.2, iv b.3, V.lst 2 (gl b.4), V.lst 1 (nl b.5)], V.lst 3 (sub (fdl r) 0 (m - 0))] fun v => onIntK IntKind.i64 v fun n_2 => ifB (n_2 == (-1 : Int)) (need ((fdl r).length ≤ (fdl r).length) (need (m ≤ (fdl r).length) (J (St.mk (mkT [(0, V.yl (Id.p 5)), (1, V.ptr (Id.p 3) 0 0), (2, V.ptr (Id.p 4) 0 0)]) (Hp.mk [(3, O.rows 1 false [[V.lst 3 (sub (fdl r) m ((fdl r).length - m))]]), (5, O.lp (Lr.mk LoopState.ready none (mkT [(0, V.agg [iv b.1, iv b.2, iv b.3, V.lst 2 (gl b.4), V.lst 1 (nl b.5)]), (1, V.lst 3 (fdl l)), (2, V.ptr (Id.p 0) 0 0), (4, nilS), (5, iv (0 : Int)), (6, iv (0 : Int)), (7, V.ptr (Id.p 2) 0 0), (13, V.agg [iv b.1, iv b.2, iv b.3, V.lst 2 (gl b.4), V.lst 1 (nl b.5)]), (14, iv n), (15, V.lst 3 (fdl l)), (16, iv n_1), (17, V.sl (Id.p 1) 0 2), (18, iv (0 : Int)), (19, iv (0 : Int)), (20, bv false), (22, V.lst 3 (fdl l)), (23, V.ptr (Id.p 0) 0 2), (24, iv b.3), (25, V.fn (Fn.func (90 : FuncId)) [] [V.ptr (Id.p 3) 0 0, V.ptr (Id.p 4) 0 0])]) 64 (Array.mk [26]) (rfA (cdAt [1, 1, 1, 0, 1, 0] (bodyOf Try.f24))) (rfB (cdAt [1, 1, 1, 0, 1, 0] (bodyOf Try.f24))) 24)), (4, O.rows 1 false [[iv b.3]]), (2, O.rows 1 false [[nilS]]), (1, O.rows 1 true [[iv n], [iv n_1]]), (0, O.rows 5 false [[iv b.1, iv b.2, iv b.3, V.lst 2 (gl b.4), V.lst 1 (nl b.5)]])] 6 []))))) (onSome (sub (fdl r) 0 (m - 0))[0]? fun row => onCons (List.drop 0 row) fun u r_1 => onIntK IntKind.i64 u fun n_3 => onCons r_1 fun u r_2 => onIntK IntKind.i64 u fun n_4 => onCons r_2 fun u r_3 => onLst u fun s es => onNat (IntKind.i64.wrap ((↑(sub (fdl r) 0 (m - 0)).length : Int) - (1 : Int))) fun m_1 => onSome (sub (fdl r) 0 (m - 0))[m_1]? fun row => onCons (List.drop 0 row) fun u r_4 => onIntK IntKind.i64 u fun n_5 => onCons r_4 fun u r_5 => onIntK IntKind.i64 u fun n_6 => onCons r_5 fun u r_6 => onLst u fun s es => onNat n_2 fun m_2 => onSome (gl b.4)[m_2]? fun row => onSome row[0]? fun v => onIntK IntKind.i64 v fun n_7 => KM Try.prog glX 64 [nilS, V.agg [iv (IntKind.i64.wrap (IntKind.i64.wrap (n_3 + n_7) - b.3)), iv n_2, bv true], V.fn (Fn.func 65) [] []] (Hp.mk [] 0 []) (postI 64 [nilS, V.agg [iv (IntKind.i64.wrap (IntKind.i64.wrap (n_3 + n_7) - b.3)), iv n_2, bv true], V.fn (Fn.func 65) [] []]) fun v us => v = V.sl (Id.p 2) 0 1 ∧ KM Try.prog glX 64 [V.sl (Id.p 0) 0 1, V.agg [iv (IntKind.i64.wrap (IntKind.i64.wrap (n_5 + n_7) + (1 : Int))), iv n_2, bv false], V.fn (Fn.func 65) [] []] (Hp.mk [(0, O.rows 3 true (List.getD us 0 []))] 1 []) (postI 64 [V.sl (Id.p 12) 0 1, V.agg [iv (IntKind.i64.wrap (IntKind.i64.wrap (n_5 + n_7) + (1 : Int))), iv n_2, bv false], V.fn (Fn.func 65) [] []]) fun v us => v = V.sl (Id.p 3) 0 2 ∧ need ((fdl r).length ≤ (fdl r).length) (need (m ≤ (fdl r).length) (J (St.mk (mkT [(0, V.yl (Id.p 5)), (1, V.ptr (Id.p 3) 0 0), (2, V.ptr (Id.p 4) 0 0)]) (Hp.mk [(3, O.rows 1 false [[V.lst 3 (sub (fdl r) m ((fdl r).length - m))]]), (5, O.lp (Lr.mk LoopState.ready none (mkT [(0, V.agg [iv b.1, iv b.2, iv b.3, V.lst 2 (gl b.4), V.lst 1 (nl b.5)]), (1, V.lst 3 (fdl l)), (2, V.ptr (Id.p 0) 0 0), (4, nilS), (5, iv (0 : Int)), (6, iv (0 : Int)), (7, V.ptr (Id.p 2) 0 0), (13, V.agg [iv b.1, iv b.2, iv b.3, V.lst 2 (gl b.4), V.lst 1 (nl b.5)]), (14, iv n), (15, V.lst 3 (fdl l)), (16, iv n_1), (17, V.sl (Id.p 1) 0 2), (18, iv (0 : Int)), (19, iv (0 : Int)), (20, bv false), (22, V.lst 3 (fdl l)), (23, V.ptr (Id.p 0) 0 2), (24, iv b.3), (25, V.fn (Fn.func (90 : FuncId)) [] [V.ptr (Id.p 3) 0 0, V.ptr (Id.p 4) 0 0])]) 64 (Array.mk [26]) (rfA (cdAt [1, 1, 1, 0, 1, 0] (bodyOf Try.f24))) (rfB (cdAt [1, 1, 1, 0, 1, 0] (bodyOf Try.f24))) 24)), (2, O.rows 1 false [[V.sl (Id.p 6) 0 2]]), (4, O.rows 1 false [[iv b.3]]), (1, O.rows 1 true [[iv n], [iv n_1]]), (0, O.rows 5 false [[iv b.1, iv b.2, iv b.3, V.lst 2 (gl b.4), V.lst 1 (nl b.5)]]), (6, O.rows 3 true (List.getD us 0 []))] 7 [])))))))) (by kernel_rfl) ?_
    refine ifB_mk (fun c1 => ?_) (fun c1 => ?_)
    · have hlt : m < r.length := by rw [fdl_length] at c1; have := of_decide_eq_true c1; omega
      have hnr0 := near_of m k1 hlt
      refine fel0 (fd_get hlt) ?_
      refine onNat_mk (m := m - 1) (by rw [wr (by omega) (by omega)]; omega) ?_
      refine fel0 (fd_get (l := r) (i := m - 1) (by omega)) ?_
      refine ifB_mk (fun c2 => ?_) (fun c2 => ?_)
      · have hnr := hnr0.1 (of_decide_eq_true c2)
        rw [wr1i hlt (by omega)]
        exact hK (m + 1) ⟨by omega, hlt, fun j a c => by
          rcases Nat.lt_succ_iff_lt_or_eq.1 c with e | e
          · exact k3 j a e
          · rw [e]; exact hnr⟩ (by omega)
      · have hnr : ¬ nearP b.S r m := fun hp => absurd (hnr0.2 hp) (of_decide_eq_false c2)
        have hm := head m k1 k2 k3 (.inr hnr)
        refine need_mk ⟨by rw [fdl_length]; omega, ?_⟩
        refine sorted59' hcs hb hne (by omega) h1' ?_
        generalize hg : sortF b (r.take m) = g at hgo
        refine onIntK_iv (ifB_mk (fun e1 => ?_) (fun e1 => ?_))
        · refine need_mk ⟨Nat.le_refl _, need_mk ⟨by rw [fdl_length]; omega, ?_⟩⟩
          rw [sub_fdl']
          have g := hm F (by rw [swC, if_pos (by rw [hg]; simpa using e1)])
          rw [hF] at g
          exact g
        · obtain ⟨i, hgi, hi⟩ := hgo.resolve_left (by simpa using e1)
          have hgm := hb.2.2.2.2.1.1 _ (mem_at (gt_get hi))
          have q1 := hgm.1; have q2 := hgm.2.1
          have hgt : gt b g = gt b i := by rw [hgi]
          refine felc hcs x0 ?_
          rw [hcl]
          refine onNat_mk (m := m - 1) (by rw [wr (by omega) (by omega)]; omega) (felc hcs x1 (onNat_mk hgi (gel0 (gt_get hi) ?_)))
          rw [wr (n := (fd (r.take m) 0).1 + (gt b i).1) (by omega) (by omega), wr (n := (fd (r.take m) 0).1 + (gt b i).1 - b.S) (by omega) (by omega), wr (n := (fd (r.take m) (m - 1)).1 + (gt b i).1) (by omega) (by omega), wr (n := (fd (r.take m) (m - 1)).1 + (gt b i).1 + 1) (by omega) (by omega)]
          have hx : outS b (r.take m) g = ((fd (r.take m) 0).1 + (gt b i).1 - b.S, g, true) := by rw [outS, hgt]
          have hy : backS b (r.take m) g = ((fd (r.take m) (m - 1)).1 + (gt b i).1 + 1, g, false) := by rw [backS, hgt, htl]
          have hE := hm (insF (insF F ((fd (r.take m) 0).1 + (gt b i).1 - b.S, g, true)) ((fd (r.take m) (m - 1)).1 + (gt b i).1 + 1, g, false)) (by rw [swC, if_neg (by rw [hg]; simpa using e1), hg, hx, hy])
          rw [sh24_c (ins_ne _ _)] at hE
          rw [hF] at hE
          refine ins64n (x := ((fd (r.take m) 0).1 + (gt b i).1 - b.S, g, true)) ⟨rfl, ?_⟩
          refine ins64 (l := insF [] ((fd (r.take m) 0).1 + (gt b i).1 - b.S, g, true)) (x := ((fd (r.take m) (m - 1)).1 + (gt b i).1 + 1, g, false)) rfl (by rw [insF_length]; rfl) (by rw [insF_length]; simp) ⟨rfl, ?_⟩
          refine need_mk ⟨Nat.le_refl _, need_mk ⟨by rw [fdl_length]; omega, ?_⟩⟩
          rw [sub_fdl']
          refine hJ' ?_ hE
          simp only [st22, nC, insF_length]
          rfl
    · have hge : m = r.length := by rw [fdl_length] at c1; have := of_decide_eq_false c1; omega
      have hm := head m k1 k2 k3 (.inl hge)
      refine need_mk ⟨by rw [fdl_length]; omega, ?_⟩
      refine sorted59' hcs hb hne (by omega) h1' ?_
      generalize hg : sortF b (r.take m) = g at hgo
      refine onIntK_iv (ifB_mk (fun e1 => ?_) (fun e1 => ?_))
      · refine need_mk ⟨Nat.le_refl _, need_mk ⟨by rw [fdl_length]; omega, ?_⟩⟩
        rw [sub_fdl']
        have g := hm F (by rw [swC, if_pos (by rw [hg]; simpa using e1)])
        rw [hF] at g
        exact g
      · obtain ⟨i, hgi, hi⟩ := hgo.resolve_left (by simpa using e1)
        have hgm := hb.2.2.2.2.1.1 _ (mem_at (gt_get hi))
        have q1 := hgm.1; have q2 := hgm.2.1
        have hgt : gt b g = gt b i := by rw [hgi]
        refine felc hcs x0 ?_
        rw [hcl]
        refine onNat_mk (m := m - 1) (by rw [wr (by omega) (by omega)]; omega) (felc hcs x1 (onNat_mk hgi (gel0 (gt_get hi) ?_)))
        rw [wr (n := (fd (r.take m) 0).1 + (gt b i).1) (by omega) (by omega), wr (n := (fd (r.take m) 0).1 + (gt b i).1 - b.S) (by omega) (by omega), wr (n := (fd (r.take m) (m - 1)).1 + (gt b i).1) (by omega) (by omega), wr (n := (fd (r.take m) (m - 1)).1 + (gt b i).1 + 1) (by omega) (by omega)]
        have hx : outS b (r.take m) g = ((fd (r.take m) 0).1 + (gt b i).1 - b.S, g, true) := by rw [outS, hgt]
        have hy : backS b (r.take m) g = ((fd (r.take m) (m - 1)).1 + (gt b i).1 + 1, g, false) := by rw [backS, hgt, htl]
        have hE := hm (insF (insF F ((fd (r.take m) 0).1 + (gt b i).1 - b.S, g, true)) ((fd (r.take m) (m - 1)).1 + (gt b i).1 + 1, g, false)) (by rw [swC, if_neg (by rw [hg]; simpa using e1), hg, hx, hy])
        rw [sh24_c (ins_ne _ _)] at hE
        rw [hF] at hE
        refine ins64n (x := ((fd (r.take m) 0).1 + (gt b i).1 - b.S, g, true)) ⟨rfl, ?_⟩
        refine ins64 (l := insF [] ((fd (r.take m) 0).1 + (gt b i).1 - b.S, g, true)) (x := ((fd (r.take m) (m - 1)).1 + (gt b i).1 + 1, g, false)) rfl (by rw [insF_length]; rfl) (by rw [insF_length]; simp) ⟨rfl, ?_⟩
        refine need_mk ⟨Nat.le_refl _, need_mk ⟨by rw [fdl_length]; omega, ?_⟩⟩
        rw [sub_fdl']
        refine hJ' ?_ hE
        simp only [st22, nC, insF_length]
        rfl
  · rw [sh24_c hF]
    clear hJ
    refine see (p := ifB (decide ((↑(fdl r).length : Int) > (0 : Int))) (La 6 [(0 : Tmp), (1 : Tmp), (2 : Tmp), (4 : Tmp)] (WY Try.prog cfIS 2985 (Env.mk (Bs.mk 0 (spared [] [V.yl (Id.p 5), V.ptr (Id.p 3) 0 0, V.ptr (Id.p 4) 0 0] ++ [])) 6 none 41 90 2) (cdAt [0, 0, 1, 0, 1, 0, 0, 0] (bodyOf Try.f90))) (Qblk 2 (Qthen (WY Try.prog cfIS 2987 (Env.mk (Bs.mk 0 (spared [] [V.yl (Id.p 5), V.ptr (Id.p 3) 0 0, V.ptr (Id.p 4) 0 0] ++ [])) 6 none 41 90 1) (cdAt [0, 0, 1, 0, 1, 1] (bodyOf Try.f90)) (Qblk 1 (Qla 6 [(0 : Tmp), (1 : Tmp), (2 : Tmp)] J (Qblk 0 (QendX Try.prog Try.f90 fun v h' => kontY (WY Try.prog cfIS 2993) (Env.mk (Bs.mk 0 []) 0 none 64 24 0) (Qblk 0 (Qthen (WY Try.prog cfIS 2996 (Env.mk (Bs.mk 0 []) 0 none 64 24 0) (cdAt [1, 1, 1, 1] (bodyOf Try.f24)) (QendX Try.prog Try.f24 fun v h => R (frzW h v))) (QendX Try.prog Try.f24 fun v h => R (frzW h v)))) (mkT [(0, V.agg [iv b.1, iv b.2, iv b.3, V.lst 2 (gl b.4), V.lst 1 (nl b.5)]), (1, V.lst 3 (fdl l)), (2, V.ptr (Id.p 0) 0 0), (4, nilS), (5, iv (0 : Int)), (6, iv (0 : Int)), (7, V.ptr (Id.p 2) 0 0), (13, V.agg [iv b.1, iv b.2, iv b.3, V.lst 2 (gl b.4), V.lst 1 (nl b.5)]), (14, iv n), (15, V.lst 3 (fdl l)), (16, iv n_1), (17, V.sl (Id.p 1) 0 2), (18, iv (0 : Int)), (19, iv (0 : Int)), (20, bv false), (22, V.lst 3 (fdl l)), (23, V.ptr (Id.p 0) 0 2), (24, iv b.3), (25, V.fn (Fn.func 90) [] [V.ptr (Id.p 3) 0 0, V.ptr (Id.p 4) 0 0])]) 5 v (bif cfIS.clean 90 then gcH 6 v h' else h')))))) (Qblk 1 (Qla 6 [(0 : Tmp), (1 : Tmp), (2 : Tmp)] J (Qblk 0 (QendX Try.prog Try.f90 fun v h' => kontY (WY Try.prog cfIS 2993) (Env.mk (Bs.mk 0 []) 0 none 64 24 0) (Qblk 0 (Qthen (WY Try.prog cfIS 2996 (Env.mk (Bs.mk 0 []) 0 none 64 24 0) (cdAt [1, 1, 1, 1] (bodyOf Try.f24)) (QendX Try.prog Try.f24 fun v h => R (frzW h v))) (QendX Try.prog Try.f24 fun v h => R (frzW h v)))) (mkT [(0, V.agg [iv b.1, iv b.2, iv b.3, V.lst 2 (gl b.4), V.lst 1 (nl b.5)]), (1, V.lst 3 (fdl l)), (2, V.ptr (Id.p 0) 0 0), (4, nilS), (5, iv (0 : Int)), (6, iv (0 : Int)), (7, V.ptr (Id.p 2) 0 0), (13, V.agg [iv b.1, iv b.2, iv b.3, V.lst 2 (gl b.4), V.lst 1 (nl b.5)]), (14, iv n), (15, V.lst 3 (fdl l)), (16, iv n_1), (17, V.sl (Id.p 1) 0 2), (18, iv (0 : Int)), (19, iv (0 : Int)), (20, bv false), (22, V.lst 3 (fdl l)), (23, V.ptr (Id.p 0) 0 2), (24, iv b.3), (25, V.fn (Fn.func 90) [] [V.ptr (Id.p 3) 0 0, V.ptr (Id.p 4) 0 0])]) 5 v (bif cfIS.clean 90 then gcH 6 v h' else h'))))))) (St.mk (mkT [(0, V.yl (Id.p 5)), (1, V.ptr (Id.p 3) 0 0), (2, V.ptr (Id.p 4) 0 0), (4, iv (1 : Int))]) (Hp.mk [(3, O.rows 1 false [[V.lst 3 (fdl r)]]), (5, O.lp (Lr.mk LoopState.ready none (mkT [(0, V.agg [iv b.1, iv b.2, iv b.3, V.lst 2 (gl b.4), V.lst 1 (nl b.5)]), (1, V.lst 3 (fdl l)), (2, V.ptr (Id.p 0) 0 0), (4, nilS), (5, iv (0 : Int)), (6, iv (0 : Int)), (7, V.ptr (Id.p 2) 0 0), (13, V.agg [iv b.1, iv b.2, iv b.3, V.lst 2 (gl b.4), V.lst 1 (nl b.5)]), (14, iv n), (15, V.lst 3 (fdl l)), (16, iv n_1), (17, V.sl (Id.p 1) 0 2), (18, iv (0 : Int)), (19, iv (0 : Int)), (20, bv false), (22, V.lst 3 (fdl l)), (23, V.ptr (Id.p 0) 0 2), (24, iv b.3), (25, V.fn (Fn.func (90 : FuncId)) [] [V.ptr (Id.p 3) 0 0, V.ptr (Id.p 4) 0 0])]) 64 (Array.mk [26]) (rfA (cdAt [1, 1, 1, 0, 1, 0] (bodyOf Try.f24))) (rfB (cdAt [1, 1, 1, 0, 1, 0] (bodyOf Try.f24))) 24)), (2, O.rows 1 false [[V.sl (Id.p 6) 0 F.length]]), (4, O.rows 1 false [[iv b.3]]), (1, O.rows 1 true [[iv n], [iv n_1]]), (0, O.rows 5 false [[iv b.1, iv b.2, iv b.3, V.lst 2 (gl b.4), V.lst 1 (nl b.5)]]), (6, O.rows 3 true (swl F))] 7 []))) (R (V.tup [V.lst 3 (sub (swl F) 0 F.length), iv (0 : Int)]))) (by kernel_rfl) ?_
    refine ifB_mk (fun c0 => ?_) (fun c0 => ?_)
    rotate_left
    · have hr : r = [] := List.eq_nil_of_length_eq_zero (by rw [fdl_length] at c0; have := of_decide_eq_false c0; omega)
      have e := emp hr
      rw [show lsW F = .lst 3 (swl F) from by cases F with | nil => exact (hF rfl).elim | cons x t => rfl] at e
      rw [show sub (swl F) 0 F.length = swl F from swl_take F]
      exact e
    have hpos : 0 < r.length := by rw [fdl_length] at c0; have := of_decide_eq_true c0; omega
    refine La.of (σ := Nat) (fun m => st90 m (nC b l n n_1 (fdl r) F)) (fun m => 1 ≤ m ∧ m ≤ r.length ∧ ∀ j, 1 ≤ j → j < m → nearP b.S r j) (fun m => r.length - m) 1 (by kernel_rfl) ⟨Nat.le_refl _, hpos, fun j a c => by omega⟩ ?_
    rintro m ⟨k1, k2, k3⟩ K hK
    have hne : r.take m ≠ [] := fun he => by have := congrArg List.length he; rw [List.length_take, List.length_nil] at this; omega
    have htl : (r.take m).length = m := by rw [List.length_take]; omega
    have h1' : ∀ x ∈ r.take m, F1 x := fun x hx => i2 x (mem_take hx)
    have hgo := sort_ok b (r.take m)
    have hcs := sub_fdl r m
    have hcl : (sub (fdl r) 0 (m - 0)).length = m := by rw [hcs, fdl_length, htl]
    have x0 := fd_get (l := r.take m) (i := 0) (by omega)
    have x1 := fd_get (l := r.take m) (i := m - 1) (by omega)
    have f0 := h1' _ (mem_at x0)
    have f1 := h1' _ (mem_at x1)
    have a1 := f0.1; have a2 := f0.2.1; have a3 := f1.1; have a4 := f1.2.1
    refine see (p := ifB (decide ((↑m : Int) < (↑(fdl r).length : Int))) (onSome (fdl r)[m]? fun row => onSome row[0]? fun v => onIntK IntKind.i64 v fun n_2 => onNat (IntKind.i64.wrap ((↑m : Int) - (1 : Int))) fun m_1 => onSome (fdl r)[m_1]? fun row => onSome row[0]? fun v => onIntK IntKind.i64 v fun n_3 => ifB (decide (IntKind.i64.wrap (n_2 - n_3) ≤ IntKind.i64.wrap (IntKind.i64.wrap ((2 : Int) * b.3) + (1 : Int)))) (K (St.mk (mkT [(0, V.yl (Id.p 5)), (1, V.ptr (Id.p 3) 0 0), (2, V.ptr (Id.p 4) 0 0), (4, iv (IntKind.i64.wrap ((↑m : Int) + (1 : Int))))]) (Hp.mk [(3, O.rows 1 false [[V.lst 3 (fdl r)]]), (5, O.lp (Lr.mk LoopState.ready none (mkT [(0, V.agg [iv b.1, iv b.2, iv b.3, V.lst 2 (gl b.4), V.lst 1 (nl b.5)]), (1, V.lst 3 (fdl l)), (2, V.ptr (Id.p 0) 0 0), (4, nilS), (5, iv (0 : Int)), (6, iv (0 : Int)), (7, V.ptr (Id.p 2) 0 0), (13, V.agg [iv b.1, iv b.2, iv b.3, V.lst 2 (gl b.4), V.lst 1 (nl b.5)]), (14, iv n), (15, V.lst 3 (fdl l)), (16, iv n_1), (17, V.sl (Id.p 1) 0 2), (18, iv (0 : Int)), (19, iv (0 : Int)), (20, bv false), (22, V.lst 3 (fdl l)), (23, V.ptr (Id.p 0) 0 2), (24, iv b.3), (25, V.fn (Fn.func (90 : FuncId)) [] [V.ptr (Id.p 3) 0 0, V.ptr (Id.p 4) 0 0])]) 64 (Array.mk [26]) (rfA (cdAt [1, 1, 1, 0, 1, 0] (bodyOf Try.f24))) (rfB (cdAt [1, 1, 1, 0, 1, 0] (bodyOf Try.f24))) 24)), (2, O.rows 1 false [[V.sl (Id.p 6) 0 F.length]]), (4, O.rows 1 false [[iv b.3]]), (1, O.rows 1 true [[iv n], [iv n_1]]), (0, O.rows 5 false [[iv b.1, iv b.2, iv b.3, V.lst 2 (gl b.4), V.lst 1 (nl b.5)]]), (6, O.rows 3 true (swl F))] 7 []))) (need (m ≤ (fdl r).length) (K0G Try.prog glX 59 [V.agg [iv b.1, iv b.2, iv b.3, V.lst 2 (gl b.4), V.lst 1 (nl b.5)], V.lst 3 (sub (fdl r) 0 (m - 0))] fun v => onIntK IntKind.i64 v fun n_4 => ifB (n_4 == (-1 : Int)) (need ((fdl r).length ≤ (fdl r).length) (need (m ≤ (fdl r).length) (J (St.mk (mkT [(0, V.yl (Id.p 5)), (1, V.ptr (Id.p 3) 0 0), (2, V.ptr (Id.p 4) 0 0)]) (Hp.mk [(3, O.rows 1 false [[V.lst 3 (sub (fdl r) m ((fdl r).length - m))]]), (5, O.lp (Lr.mk LoopState.ready none (mkT [(0, V.agg [iv b.1, iv b.2, iv b.3, V.lst 2 (gl b.4), V.lst 1 (nl b.5)]), (1, V.lst 3 (fdl l)), (2, V.ptr (Id.p 0) 0 0), (4, nilS), (5, iv (0 : Int)), (6, iv (0 : Int)), (7, V.ptr (Id.p 2) 0 0), (13, V.agg [iv b.1, iv b.2, iv b.3, V.lst 2 (gl b.4), V.lst 1 (nl b.5)]), (14, iv n), (15, V.lst 3 (fdl l)), (16, iv n_1), (17, V.sl (Id.p 1) 0 2), (18, iv (0 : Int)), (19, iv (0 : Int)), (20, bv false), (22, V.lst 3 (fdl l)), (23, V.ptr (Id.p 0) 0 2), (24, iv b.3), (25, V.fn (Fn.func (90 : FuncId)) [] [V.ptr (Id.p 3) 0 0, V.ptr (Id.p 4) 0 0])]) 64 (Array.mk [26]) (rfA (cdAt [1, 1, 1, 0, 1, 0] (bodyOf Try.f24))) (rfB (cdAt [1, 1, 1, 0, 1, 0] (bodyOf Try.f24))) 24)), (2, O.rows 1 false [[V.sl (Id.p 6) 0 F.length]]), (4, O.rows 1 false [[iv b.3]]), (1, O.rows 1 true [[iv n], [iv n_1]]), (0, O.rows 5 false [[iv b.1, iv b.2, iv b.3, V.lst 2 (gl b.4), V.lst 1 (nl b.5)]]), (6, O.rows 3 true (swl F))] 7 []))))) (onSome (sub (fdl r) 0 (m - 0))[0]? fun row => onCons (List.drop 0 row) fun u r_1 => onIntK IntKind.i64 u fun n_5 => onCons r_1 fun u r_2 => onIntK IntKind.i64 u fun n_6 => onCons r_2 fun u r_3 => onLst u fun s es => onNat (IntKind.i64.wrap ((↑(sub (fdl r) 0 (m - 0)).length : Int) - (1 : Int))) fun m_2 => onSome (sub (fdl r) 0 (m - 0))[m_2]? fun row => onCons (List.drop 0 row) fun u r_4 => onIntK IntKind.i64 u fun n_7 => onCons r_4 fun u r_5 => onIntK IntKind.i64 u fun n_8 => onCons r_5 fun u r_6 => onLst u fun s es => onNat n_4 fun m_3 => onSome (gl b.4)[m_3]? fun row => onSome row[0]? fun v => onIntK IntKind.i64 v fun n_9 => KM Try.prog glX 64 [V.sl (Id.p 0) 0 F.length, V.agg [iv (IntKind.i64.wrap (IntKind.i64.wrap (n_5 + n_9) - b.3)), iv n_4, bv true], V.fn (Fn.func 65) [] []] (Hp.mk [(0, O.rows 3 true (swl F))] 1 []) (postI 64 [V.sl (Id.p 6) 0 F.length, V.agg [iv (IntKind.i64.wrap (IntKind.i64.wrap (n_5 + n_9) - b.3)), iv n_4, bv true], V.fn (Fn.func 65) [] []]) fun v us => v = V.sl (Id.p 3) 0 (F.length + 1) ∧ KM Try.prog glX 64 [V.sl (Id.p 0) 0 (F.length + 1), V.agg [iv (IntKind.i64.wrap (IntKind.i64.wrap (n_7 + n_9) + (1 : Int))), iv n_4, bv false], V.fn (Fn.func 65) [] []] (Hp.mk [(0, O.rows 3 true (List.getD us 0 []))] 1 []) (postI 64 [V.sl (Id.p 13) 0 (F.length + 1), V.agg [iv (IntKind.i64.wrap (IntKind.i64.wrap (n_7 + n_9) + (1 : Int))), iv n_4, bv false], V.fn (Fn.func 65) [] []]) fun v us => v = V.sl (Id.p 3) 0 (F.length + 1 + 1) ∧ need ((fdl r).length ≤ (fdl r).length) (need (m ≤ (fdl r).length) (J (St.mk (mkT [(0, V.yl (Id.p 5)), (1, V.ptr (Id.p 3) 0 0), (2, V.ptr (Id.p 4) 0 0)]) (Hp.mk [(3, O.rows 1 false [[V.lst 3 (sub (fdl r) m ((fdl r).length - m))]]), (5, O.lp (Lr.mk LoopState.ready none (mkT [(0, V.agg [iv b.1, iv b.2, iv b.3, V.lst 2 (gl b.4), V.lst 1 (nl b.5)]), (1, V.lst 3 (fdl l)), (2, V.ptr (Id.p 0) 0 0), (4, nilS), (5, iv (0 : Int)), (6, iv (0 : Int)), (7, V.ptr (Id.p 2) 0 0), (13, V.agg [iv b.1, iv b.2, iv b.3, V.lst 2 (gl b.4), V.lst 1 (nl b.5)]), (14, iv n), (15, V.lst 3 (fdl l)), (16, iv n_1), (17, V.sl (Id.p 1) 0 2), (18, iv (0 : Int)), (19, iv (0 : Int)), (20, bv false), (22, V.lst 3 (fdl l)), (23, V.ptr (Id.p 0) 0 2), (24, iv b.3), (25, V.fn (Fn.func (90 : FuncId)) [] [V.ptr (Id.p 3) 0 0, V.ptr (Id.p 4) 0 0])]) 64 (Array.mk [26]) (rfA (cdAt [1, 1, 1, 0, 1, 0] (bodyOf Try.f24))) (rfB (cdAt [1, 1, 1, 0, 1, 0] (bodyOf Try.f24))) 24)), (2, O.rows 1 false [[V.sl (Id.p 6) 0 (F.length + 1 + 1)]]), (4, O.rows 1 false [[iv b.3]]), (1, O.rows 1 true [[iv n], [iv n_1]]), (0, O.rows 5 false [[iv b.1, iv b.2, iv b.3, V.lst 2 (gl b.4), V.lst 1 (nl b.5)]]), (6, O.rows 3 true (List.getD us 0 []))] 7 [])))))))) (need (m ≤ (fdl r).length) (K0G Try.prog glX 59 [V.agg [iv b.1, iv b.2, iv b.3, V.lst 2 (gl b.4), V.lst 1 (nl b.5)], V.lst 3 (sub (fdl r) 0 (m - 0))] fun v => onIntK IntKind.i64 v fun n_2 => ifB (n_2 == (-1 : Int)) (need ((fdl r).length ≤ (fdl r).length) (need (m ≤ (fdl r).length) (J (St.mk (mkT [(0, V.yl (Id.p 5)), (1, V.ptr (Id.p 3) 0 0), (2, V.ptr (Id.p 4) 0 0)]) (Hp.mk [(3, O.rows 1 false [[V.lst 3 (sub (fdl r) m ((fdl r).length - m))]]), (5, O.lp (Lr.mk LoopState.ready none (mkT [(0, V.agg [iv b.1, iv b.2, iv b.3, V.lst 2 (gl b.4), V.lst 1 (nl b.5)]), (1, V.lst 3 (fdl l)), (2, V.ptr (Id.p 0) 0 0), (4, nilS), (5, iv (0 : Int)), (6, iv (0 : Int)), (7, V.ptr (Id.p 2) 0 0), (13, V.agg [iv b.1, iv b.2, iv b.3, V.lst 2 (gl b.4), V.lst 1 (nl b.5)]), (14, iv n), (15, V.lst 3 (fdl l)), (16, iv n_1), (17, V.sl (Id.p 1) 0 2), (18, iv (0 : Int)), (19, iv (0 : Int)), (20, bv false), (22, V.lst 3 (fdl l)), (23, V.ptr (Id.p 0) 0 2), (24, iv b.3), (25, V.fn (Fn.func (90 : FuncId)) [] [V.ptr (Id.p 3) 0 0, V.ptr (Id.p 4) 0 0])]) 64 (Array.mk [26]) (rfA (cdAt [1, 1, 1, 0, 1, 0] (bodyOf Try.f24))) (rfB (cdAt [1, 1, 1, 0, 1, 0] (bodyOf Try.f24))) 24)), (2, O.rows 1 false [[V.sl (Id.p 6) 0 F.length]]), (4, O.rows 1 false [[iv b.3]]), (1, O.rows 1 true [[iv n], [iv n_1]]), (0, O.rows 5 false [[iv b.1, iv b.2, iv b.3, V.lst 2 (gl b.4), V.lst 1 (nl b.5)]]), (6, O.rows 3 true (swl F))] 7 []))))) (onSome (sub (fdl r) 0 (m - 0))[0]? fun row => onCons (List.drop 0 row) fun u r_1 => onIntK IntKind.i64 u fun n_3 => onCons r_1 fun u r_2 => onIntK IntKind.i64 u fun n_4 => onCons r_2 fun u r_3 => onLst u fun s es => onNat (IntKind.i64.wrap ((↑(sub (fdl r) 0 (m - 0)).length : Int) - (1 : Int))) fun m_1 => onSome (sub (fdl r) 0 (m - 0))[m_1]? fun row => onCons (List.drop 0 row) fun u r_4 => onIntK IntKind.i64 u fun n_5 => onCons r_4 fun u r_5 => onIntK IntKind.i64 u fun n_6 => onCons r_5 fun u r_6 => onLst u fun s es => onNat n_2 fun m_2 => onSome (gl b.4)[m_2]? fun row => onSome row[0]? fun v => onIntK IntKind.i64 v fun n_7 => KM Try.prog glX 64 [V.sl (Id.p 0) 0 F.length, V.agg [iv (IntKind.i64.wrap (IntKind.i64.wrap (n_3 + n_7) - b.3)), iv n_2, bv true], V.fn (Fn.func 65) [] []] (Hp.mk [(0, O.rows 3 true (swl F))] 1 []) (postI 64 [V.sl (Id.p 6) 0 F.length, V.agg [iv (IntKind.i64.wrap (IntKind.i64.wrap (n_3 + n_7) - b.3)), iv n_2, bv true], V.fn (Fn.func 65) [] []]) fun v us => v = V.sl (Id.p 3) 0 (F.length + 1) ∧ KM Try.prog glX 64 [V.sl (Id.p 0) 0 (F.length + 1), V.agg [iv (IntKind.i64.wrap (IntKind.i64.wrap (n_5 + n_7) + (1 : Int))), iv n_2, bv false], V.fn (Fn.func 65) [] []] (Hp.mk [(0, O.rows 3 true (List.getD us 0 []))] 1 []) (postI 64 [V.sl (Id.p 13) 0 (F.length + 1), V.agg [iv (IntKind.i64.wrap (IntKind.i64.wrap (n_5 + n_7) + (1 : Int))), iv n_2, bv false], V.fn (Fn.func 65) [] []]) fun v us => v = V.sl (Id.p 3) 0 (F.length + 1 + 1) ∧ need ((fdl r).length ≤ (fdl r).length) (need (m ≤ (fdl r).length) (J (St.mk (mkT [(0, V.yl (Id.p 5)), (1, V.ptr (Id.p 3) 0 0), (2, V.ptr (Id.p 4) 0 0)]) (Hp.mk [(3, O.rows 1 false [[V.lst 3 (sub (fdl r) m ((fdl r).length - m))]]), (5, O.lp (Lr.mk LoopState.ready none (mkT [(0, V.agg [iv b.1, iv b.2, iv b.3, V.lst 2 (gl b.4), V.lst 1 (nl b.5)]), (1, V.lst 3 (fdl l)), (2, V.ptr (Id.p 0) 0 0), (4, nilS), (5, iv (0 : Int)), (6, iv (0 : Int)), (7, V.ptr (Id.p 2) 0 0), (13, V.agg [iv b.1, iv b.2, iv b.3, V.lst 2 (gl b.4), V.lst 1 (nl b.5)]), (14, iv n), (15, V.lst 3 (fdl l)), (16, iv n_1), (17, V.sl (Id.p 1) 0 2), (18, iv (0 : Int)), (19, iv (0 : Int)), (20, bv false), (22, V.lst 3 (fdl l)), (23, V.ptr (Id.p 0) 0 2), (24, iv b.3), (25, V.fn (Fn.func (90 : FuncId)) [] [V.ptr (Id.p 3) 0 0, V.ptr (Id.p 4) 0 0])]) 64 (Array.mk [26]) (rfA (cdAt [1, 1, 1, 0, 1, 0] (bodyOf Try.f24))) (rfB (cdAt [1, 1, 1, 0, 1, 0] (bodyOf Try.f24))) 24)), (2, O.rows 1 false [[V.sl (Id.p 6) 0 (F.length + 1 + 1)]]), (4, O.rows 1 false [[iv b.3]]), (1, O.rows 1 true [[iv n], [iv n_1]]), (0, O.rows 5 false [[iv b.1, iv b.2, iv b.3, V.lst 2 (gl b.4), V.lst 1 (nl b.5)]]), (6, O.rows 3 true (List.getD us 0 []))] 7 [])))))))) (by kernel_rfl) ?_
    refine ifB_mk (fun c1 => ?_) (fun c1 => ?_)
    · have hlt : m < r.length := by rw [fdl_length] at c1; have := of_decide_eq_true c1; omega
      have hnr0 := near_of m k1 hlt
      refine fel0 (fd_get hlt) ?_
      refine onNat_mk (m := m - 1) (by rw [wr (by omega) (by omega)]; omega) ?_
      refine fel0 (fd_get (l := r) (i := m - 1) (by omega)) ?_
      refine ifB_mk (fun c2 => ?_) (fun c2 => ?_)
      · have hnr := hnr0.1 (of_decide_eq_true c2)
        rw [wr1i hlt (by omega)]
        exact hK (m + 1) ⟨by omega, hlt, fun j a c => by
          rcases Nat.lt_succ_iff_lt_or_eq.1 c with e | e
          · exact k3 j a e
          · rw [e]; exact hnr⟩ (by omega)
      · have hnr : ¬ nearP b.S r m := fun hp => absurd (hnr0.2 hp) (of_decide_eq_false c2)
        have hm := head m k1 k2 k3 (.inr hnr)
        refine need_mk ⟨by rw [fdl_length]; omega, ?_⟩
        refine sorted59' hcs hb hne (by omega) h1' ?_
        generalize hg : sortF b (r.take m) = g at hgo
        refine onIntK_iv (ifB_mk (fun e1 => ?_) (fun e1 => ?_))
        · refine need_mk ⟨Nat.le_refl _, need_mk ⟨by rw [fdl_length]; omega, ?_⟩⟩
          rw [sub_fdl']
          have g := hm F (by rw [swC, if_pos (by rw [hg]; simpa using e1)])
          rw [sh24_c hF] at g
          exact g
        · obtain ⟨i, hgi, hi⟩ := hgo.resolve_left (by simpa using e1)
          have hgm := hb.2.2.2.2.1.1 _ (mem_at (gt_get hi))
          have q1 := hgm.1; have q2 := hgm.2.1
          have hgt : gt b g = gt b i := by rw [hgi]
          refine felc hcs x0 ?_
          rw [hcl]
          refine onNat_mk (m := m - 1) (by rw [wr (by omega) (by omega)]; omega) (felc hcs x1 (onNat_mk hgi (gel0 (gt_get hi) ?_)))
          rw [wr (n := (fd (r.take m) 0).1 + (gt b i).1) (by omega) (by omega), wr (n := (fd (r.take m) 0).1 + (gt b i).1 - b.S) (by omega) (by omega), wr (n := (fd (r.take m) (m - 1)).1 + (gt b i).1) (by omega) (by omega), wr (n := (fd (r.take m) (m - 1)).1 + (gt b i).1 + 1) (by omega) (by omega)]
          have hx : outS b (r.take m) g = ((fd (r.take m) 0).1 + (gt b i).1 - b.S, g, true) := by rw [outS, hgt]
          have hy : backS b (r.take m) g = ((fd (r.take m) (m - 1)).1 + (gt b i).1 + 1, g, false) := by rw [backS, hgt, htl]
          have hE := hm (insF (insF F ((fd (r.take m) 0).1 + (gt b i).1 - b.S, g, true)) ((fd (r.take m) (m - 1)).1 + (gt b i).1 + 1, g, false)) (by rw [swC, if_neg (by rw [hg]; simpa using e1), hg, hx, hy])
          rw [sh24_c (ins_ne _ _)] at hE
          refine ins64 (l := F) (x := ((fd (r.take m) 0).1 + (gt b i).1 - b.S, g, true)) rfl rfl (by omega) ⟨rfl, ?_⟩
          refine ins64 (l := insF F ((fd (r.take m) 0).1 + (gt b i).1 - b.S, g, true)) (x := ((fd (r.take m) (m - 1)).1 + (gt b i).1 + 1, g, false)) rfl (by rw [insF_length]) (by rw [insF_length]; omega) ⟨rfl, ?_⟩
          refine need_mk ⟨Nat.le_refl _, need_mk ⟨by rw [fdl_length]; omega, ?_⟩⟩
          rw [sub_fdl']
          refine hJ' ?_ hE
          simp only [st22, nC, insF_length]
          rfl
    · have hge : m = r.length := by rw [fdl_length] at c1; have := of_decide_eq_false c1; omega
      have hm := head m k1 k2 k3 (.inl hge)
      refine need_mk ⟨by rw [fdl_length]; omega, ?_⟩
      refine sorted59' hcs hb hne (by omega) h1' ?_
      generalize hg : sortF b (r.take m) = g at hgo
      refine onIntK_iv (ifB_mk (fun e1 => ?_) (fun e1 => ?_))
      · refine need_mk ⟨Nat.le_refl _, need_mk ⟨by rw [fdl_length]; omega, ?_⟩⟩
        rw [sub_fdl']
        have g := hm F (by rw [swC, if_pos (by rw [hg]; simpa using e1)])
        rw [sh24_c hF] at g
        exact g
      · obtain ⟨i, hgi, hi⟩ := hgo.resolve_left (by simpa using e1)
        have hgm := hb.2.2.2.2.1.1 _ (mem_at (gt_get hi))
        have q1 := hgm.1; have q2 := hgm.2.1
        have hgt : gt b g = gt b i := by rw [hgi]
        refine felc hcs x0 ?_
        rw [hcl]
        refine onNat_mk (m := m - 1) (by rw [wr (by omega) (by omega)]; omega) (felc hcs x1 (onNat_mk hgi (gel0 (gt_get hi) ?_)))
        rw [wr (n := (fd (r.take m) 0).1 + (gt b i).1) (by omega) (by omega), wr (n := (fd (r.take m) 0).1 + (gt b i).1 - b.S) (by omega) (by omega), wr (n := (fd (r.take m) (m - 1)).1 + (gt b i).1) (by omega) (by omega), wr (n := (fd (r.take m) (m - 1)).1 + (gt b i).1 + 1) (by omega) (by omega)]
        have hx : outS b (r.take m) g = ((fd (r.take m) 0).1 + (gt b i).1 - b.S, g, true) := by rw [outS, hgt]
        have hy : backS b (r.take m) g = ((fd (r.take m) (m - 1)).1 + (gt b i).1 + 1, g, false) := by rw [backS, hgt, htl]
        have hE := hm (insF (insF F ((fd (r.take m) 0).1 + (gt b i).1 - b.S, g, true)) ((fd (r.take m) (m - 1)).1 + (gt b i).1 + 1, g, false)) (by rw [swC, if_neg (by rw [hg]; simpa using e1), hg, hx, hy])
        rw [sh24_c (ins_ne _ _)] at hE
        refine ins64 (l := F) (x := ((fd (r.take m) 0).1 + (gt b i).1 - b.S, g, true)) rfl rfl (by omega) ⟨rfl, ?_⟩
        refine ins64 (l := insF F ((fd (r.take m) 0).1 + (gt b i).1 - b.S, g, true)) (x := ((fd (r.take m) (m - 1)).1 + (gt b i).1 + 1, g, false)) rfl (by rw [insF_length]) (by rw [insF_length]; omega) ⟨rfl, ?_⟩
        refine need_mk ⟨Nat.le_refl _, need_mk ⟨by rw [fdl_length]; omega, ?_⟩⟩
        rw [sub_fdl']
        refine hJ' ?_ hE
        simp only [st22, nC, insF_length]
        rfl
end Go.Proofs.Ytmdimnmdoifkfaa
