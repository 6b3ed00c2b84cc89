/- A part of the proof. -/
import Derived.Test.YtbionhgjgcpogaaGreatDoorProg
import Derived.Test.YtbionhgjgcpogaaGreatDoorXS10G10
import Derived.Test.YtbionhgjgcpogaaGreatDoorXS10G11
import Derived.Test.YtbionhgjgcpogaaGreatDoorXS10G12
namespace Go.Proofs.YtbionhgjgcpogaaGreatDoor
open Go Go.Proofs.YtbionhgjgcpogaaGreatDoor.Clean
set_option linter.unusedVariables false
set_option linter.unusedSimpArgs false
set_option maxRecDepth 10000
theorem addC_zero (a : Cl) : addC a (0, 0, 0) = a := cl_ext (by simp [addC]) (by simp [addC]) (by simp [addC])
theorem addC_bef {a b d : Cl} : Bef (addC a d) (addC b d) ↔ Bef a b := by unfold Bef; simp only [addC]; omega
theorem addC_inj {a b d : Cl} (h : addC a d = addC b d) : a = b := by
  have h1 : (addC a d).1 = (addC b d).1 := by rw [h]
  have h2 : (addC a d).2.1 = (addC b d).2.1 := by rw [h]
  have h3 : (addC a d).2.2 = (addC b d).2.2 := by rw [h]
  simp only [addC] at h1 h2 h3
  exact cl_ext (by omega) (by omega) (by omega)
theorem plc_sh (q : Kd) (t : Nat) (d : Cl) : plc q t d = shC d (plc q t (0, 0, 0)) := by
  refine (sortC_uniq (l := q.1.map fun c => addC (tn t c) d) ?_ ?_).symm
  · unfold shC plc
    refine ((sortC_perm _).map _).trans ?_
    rw [List.map_map]
    refine List.Perm.of_eq (List.map_congr_left fun c _ => ?_)
    simp only [Function.comp, addC_zero]
  · unfold shC
    rw [List.pairwise_map]
    exact (sortC_srt _).imp (fun h => by rw [addC_bef]; exact h)
theorem knb_sh (q : Kd) (t : Nat) (d : Cl) : knb q t d = shK d (knb q t (0, 0, 0)) := by
  unfold knb shK
  rw [List.map_map]
  refine List.map_congr_left fun k _ => ?_
  simp only [Function.comp, addC_zero]
theorem qz_inj {a b : Cl} (h : qz a = qz b) : a = b := by
  simp only [qz, Prod.mk.injEq] at h
  exact cl_ext h.2.1 (by omega) h.2.2
theorem qx_inj {a b : Cl} (h : qx a = qx b) : a = b := by
  simp only [qx, Prod.mk.injEq] at h
  exact cl_ext h.1 h.2.2 (by omega)
theorem itr_inj {f : Cl → Cl} (hf : ∀ a b, f a = f b → a = b) : ∀ (n : Nat) (a b : Cl), itr f n a = itr f n b → a = b
  | 0, a, b, h => h
  | n + 1, a, b, h => hf _ _ (itr_inj hf n _ _ h)
theorem tn_inj {n : Nat} {a b : Cl} (h : tn n a = tn n b) : a = b := by
  unfold tn at h
  split at h
  · exact itr_inj (fun _ _ => qz_inj) _ _ _ (itr_inj (fun _ _ => qx_inj) _ _ _ h)
  · exact itr_inj (fun _ _ => qz_inj) _ _ _ (qx_inj (itr_inj (fun _ _ => qz_inj) _ _ _ h))
theorem pt_inj {n : Nat} (hn : n < 24) {d e : Int} (hd : 0 ≤ d ∧ d ≤ 5) (he : 0 ≤ e ∧ e ≤ 5) (h : pt n d = pt n e) : d = e := by
  have key : ∀ n, n < 24 → ∀ d, d < 6 → ∀ e, e < 6 → (ptL.getD n []).getD d 0 = (ptL.getD n []).getD e 0 → d = e := by decide
  have := key n hn d.toNat (by omega) e.toNat (by omega) h
  omega
theorem pt0 {d : Int} (hd : 0 ≤ d ∧ d ≤ 5) : pt 0 d = d := by
  have key : ∀ d : Nat, d < 6 → (ptL.getD 0 []).getD d 0 = (d : Int) := by decide
  have := key d.toNat (by omega)
  unfold pt
  rw [this]
  omega
def Fac (l : List Kn) : Prop := ∀ a ∈ l, ∀ b ∈ l, a.1 = b.1 → a.2.1 = b.2.1 → a = b
theorem pw_mem {α : Type} {r : α → α → Prop} : ∀ {l : List α}, l.Pairwise r → ∀ a ∈ l, ∀ b ∈ l, a = b ∨ r a b ∨ r b a
  | [], _, a, ha, _, _ => by simp at ha
  | x :: l, h, a, ha, b, hb => by
    have h1 := List.pairwise_cons.1 h
    rcases List.mem_cons.1 ha with ea | ha'
    · rcases List.mem_cons.1 hb with eb | hb'
      · exact .inl (ea.trans eb.symm)
      · rw [ea]; exact .inr (.inl (h1.1 b hb'))
    · rcases List.mem_cons.1 hb with eb | hb'
      · rw [eb]; exact .inr (.inr (h1.1 a ha'))
      · exact pw_mem h1.2 a ha' b hb'
theorem Fac.of {l : List Kn} (h : l.Pairwise BefK) : Fac l := fun a ha b hb e1 e2 => by
  rcases pw_mem h a ha b hb with h | h | h
  · exact h
  · rcases h with h | ⟨_, h⟩
    · rw [e1] at h; exact absurd h (Bef.irr _)
    · omega
  · rcases h with h | ⟨_, h⟩
    · rw [e1] at h; exact absurd h (Bef.irr _)
    · omega
structure KnbP (q : Kd) : Prop where
  put : PutP q
  pw : q.2.1.Pairwise BefK
theorem knb_fac {q : Kd} {t : Nat} {d : Cl} (hq : KnbP q) (ht : t < 24) : Fac (knb q t d) := fun a ha b hb e1 e2 => by
  obtain ⟨x, hx, rfl⟩ := List.mem_map.1 ha
  obtain ⟨y, hy, rfl⟩ := List.mem_map.1 hb
  have := Fac.of hq.pw x hx y hy (tn_inj (addC_inj e1)) (pt_inj ht (hq.put.2.2.1 x hx).2 (hq.put.2.2.1 y hy).2 e2)
  rw [this]
theorem knb_nodup {q : Kd} {t : Nat} {d : Cl} (hq : KnbP q) (ht : t < 24) : (knb q t d).Nodup := by
  unfold knb
  rw [List.Nodup, List.pairwise_map]
  refine hq.pw.imp_of_mem (fun {a b} ha hb hab he => ?_)
  have e1 : addC (tn t a.1) d = addC (tn t b.1) d := congrArg Prod.fst he
  have e2 : pt t a.2.1 = pt t b.2.1 := congrArg (fun z : Kn => z.2.1) he
  have := Fac.of hq.pw a ha b hb (tn_inj (addC_inj e1)) (pt_inj ht (hq.put.2.2.1 a ha).2 (hq.put.2.2.1 b hb).2 e2)
  rw [this] at hab
  exact BefK.irr _ hab
theorem same_perm : ∀ {a b : List Kn}, a.Nodup → SameK a b → a.Perm b
  | [], b, _, h => by
    have : b = [] := List.length_eq_zero_iff.1 (by have := h.1; simpa using this.symm)
    rw [this]
  | x :: a, b, hn, h => by
    have hx : x ∈ b := h.2 x (by simp)
    have h1 := List.nodup_cons.1 hn
    have hp := List.perm_cons_erase hx
    refine ((same_perm (b := b.erase x) h1.2 ⟨?_, fun y hy => ?_⟩).cons x).trans hp.symm
    · have := hp.length_eq
      have := h.1
      simp at *
      omega
    · exact (List.mem_erase_of_ne (fun e => h1.1 (by rw [← e]; exact hy))).2 (h.2 y (by simp [hy]))
theorem perm_same {a b : List Kn} (h : a.Perm b) : SameK a b := ⟨h.length_eq, fun x hx => h.mem_iff.1 hx⟩
theorem shK_srt {d : Cl} {l : List Kn} (hf : Fac (shK d l)) : shK d (sortK l) = sortK (shK d l) := by
  refine sortK_uniq hf ((sortK_perm l).map _) ?_
  unfold shK
  rw [List.pairwise_map]
  refine (sortK_srt l).imp (fun {a b} h q => h ?_)
  rcases q with q | ⟨q1, q2⟩
  · exact .inl (addC_bef.1 q)
  · exact .inr ⟨addC_inj q1, q2⟩
theorem sort_perm {a b : List Kn} (hf : Fac b) : sortK a = sortK b ↔ a.Perm b :=
  ⟨fun h => (sortK_perm a).symm.trans (h ▸ sortK_perm b), fun h => sortK_uniq hf ((sortK_perm a).trans h) (sortK_srt a)⟩
theorem look_iff {q : Kd} {t n : Nat} {at_ : Cl} (hq : KnbP q) (ht : t < 24) (hn : n < 24) : (shC (cAt q t n at_) (plc q t (0, 0, 0)) = plc q n at_ ∧ shK (cAt q t n at_) (sortK (knb q t (0, 0, 0))) = sortK (knb q n at_)) ↔ LikeP q t n at_ := by
  rw [← plc_sh, shK_srt (by rw [← knb_sh]; exact knb_fac hq ht), ← knb_sh, sort_perm (knb_fac hq hn)]
  exact ⟨fun h => ⟨h.1, perm_same h.2⟩, fun h => ⟨h.1, same_perm (knb_nodup hq ht) h.2⟩⟩
theorem hd_sh {d : Cl} {l : List Cl} (h : 1 ≤ l.length) : hd (shC d l) = addC (hd l) d := by
  cases l with
  | nil => simp at h
  | cons x l => rfl
theorem like_self {q : Kd} {n : Nat} {at_ : Cl} (h : 1 ≤ q.1.length) : LikeP q n n at_ := by
  have e : cAt q n n at_ = at_ := by
    unfold cAt
    rw [plc_sh q n at_, hd_sh (by rw [plc_length]; exact h)]
    exact cl_ext (by simp only [subC, addC]; omega) (by simp only [subC, addC]; omega) (by simp only [subC, addC]; omega)
  unfold LikeP
  rw [e]
  exact ⟨rfl, rfl, fun x hx => hx⟩
theorem sort104 {l : List Kn} (hl : l.length < 1000000) (hf : Fac l) {post : Hp → Us → Hp} (hpost : ∀ us, post ⟨[(0, O.rows 5 true (knl l))], 1, []⟩ us = ⟨[(0, O.rows 5 true (us.getD 0 []))], 1, []⟩) {Q : V → Us → Prop} (h : Q (.tup []) [knl (sortK l)]) : KM Tryz.prog glX 104 [.sl (.p 0) 0 l.length, .fn (.func 91) [] []] ⟨[(0, O.rows 5 true (knl l))], 1, []⟩ post Q := by
  by_cases h0 : l = []
  · subst h0
    refine KM_of_WYKp hmX hcS 3000 Tryz.func104 (fun R hR => ?_)
    refine see (p := R (V.tup []) (Hp.mk [(0, O.rows 5 true [])] 1 [])) (by kernel_rfl) ?_
    have := hR (.tup []) [knl (sortK [])] h
    rw [hpost, show knl (sortK []) = [] from by simp [sortK, knl]] at this
    exact this
  · unfold KM
    have key := K_sort (P := Tryz.prog) (G := glX) (ρ := LSk_ren) LSk (k := 5) Tryz.isAgg57 Tryz.sizeOf57 (enc := encK) (fun _ => rfl) (fun x v hv => by simp [encK] at hv; rcases hv with rfl | rfl | rfl | rfl | rfl <;> rfl) (cf := cmpK) swoK (g := 91) (caps := []) (h := ⟨[(0, O.rows 5 true (knl l))], 1, []⟩) (b := 0) (p := true) (l := l) h0 (by omega) rfl
      (enters_of Tryz.func91 (by kernel_rfl) rfl) (fun l' _ x y => K_of_K0c rfl (cmp91 (a := x) (b := y) rfl)) rfl
    intro ν F w xs g1 g2 g3
    refine (key ν F w xs g1 g2 g3).mono fun e w' ⟨x, v, ν', F', h', z1, ⟨z2, l', z7, z8, z9⟩, z3, z4, z5, z6⟩ => ?_
    have : l' = sortK l := sortK_uniq hf z7 (pw_of_get fun i j a b hij ha hb hbef => z8 i j a b hij ha hb (cmpK_lt.2 hbef))
    subst this
    refine ⟨x, v, ν', F', h', z1, ⟨[knl (sortK l)], ?_, by rw [z2]; exact h⟩, z3, z4, z5, fun b y hb ht => by cases ht⟩
    rw [z9, hpost]
    rfl
theorem sortK_length (l : List Kn) : (sortK l).length = l.length := (sortK_perm l).length_eq
theorem clone103 {u : List Kn} {R : V → Prop} (hu : u.length ≤ 1000) (h : R (.lst 5 (knl u))) (h0 : u = [] → R nilS) : KB Tryz.prog glX 103 [.lst 5 (knl u)] ⟨[], 0, []⟩ R := by
  refine KB_of_WYB hmX hcD 3000 Tryz.func103 rfl (see (p := nilN (knl u).length fun b => ifB b (R nilS) (need ((0 + (knl u).length) * 32 ≤ 140737488355328) (R (V.lst 5 (sub ([] ++ knl u) 0 (0 + (knl u).length)))))) (by kernel_rfl) ?_)
  rw [knl_length]
  have e : sub ([] ++ knl u) 0 (0 + u.length) = knl u := by rw [List.nil_append, sub, List.drop_zero, List.take_of_length_le (by rw [knl_length]; omega)]
  refine nilN_mk (fun e0 => ifB_t rfl (h0 (List.length_eq_zero_iff.1 e0))) (ifB_f rfl (need_mk ⟨by omega, ?_⟩))
  rw [e]
  exact h
theorem sorted61 {x : List Cl} {u : List Kn} {R : V → Prop} (hu : u.length ≤ 1000) (hf : Fac u) (h : R (.agg [.lst 3 (cll x), .lst 5 (knl (sortK u))])) : K0G Tryz.prog glX 61 [.agg [.lst 3 (cll x), .lst 5 (knl u)]] R := by
  refine K0_by hmX hcD 3000 Tryz.func61 (p := KB Tryz.prog glX 103 [V.lst 5 (knl u)] (Hp.mk [] 0 []) fun v => onLst v fun s es => guardB (s.beq 5 || s.beq 0) (KM Tryz.prog glX 104 [V.sl (Id.p 0) 0 es.length, V.fn (Fn.func 91) [] []] (Hp.mk [(0, O.rows 5 true es)] 1 []) (poP 104 [V.sl (Id.p 2) 0 es.length, V.fn (Fn.func 91) [] []]) fun v us => onTup v fun vs => onNil vs (R (V.agg [V.lst 3 (cll x), V.lst 5 (sub (List.getD us 0 []) 0 es.length)])))) (by kernel_rfl) ?_
  have e : sub (knl (sortK u)) 0 u.length = knl (sortK u) := by rw [sub, List.drop_zero, List.take_of_length_le (by rw [knl_length, sortK_length]; omega)]
  refine clone103 hu (onLst_lst (guardB_mk rfl ?_)) (fun e0 => onLst_nil (guardB_mk rfl ?_))
  · rw [knl_length]
    refine sort104 (l := u) (by omega) hf (fun us => rfl) (onTup_tup (onNil_nil ?_))
    show R (V.agg [V.lst 3 (cll x), V.lst 5 (sub (knl (sortK u)) 0 u.length)])
    rw [e]
    exact h
  · subst e0
    refine sort104 (l := []) (by simp) hf (fun us => rfl) (onTup_tup (onNil_nil ?_))
    show R (V.agg [V.lst 3 (cll x), V.lst 5 (sub (knl (sortK [])) 0 0)])
    exact (e ▸ h)
theorem map_take_eq {α β : Type} {f : α → β} {a : List α} {b : List β} {i : Nat} {x : α} (h : (a.take i).map f = b.take i) (hx : a[i]? = some x) (hy : b[i]? = some (f x)) : (a.take (i + 1)).map f = b.take (i + 1) := by rw [take_succ' hx, take_succ' hy, List.map_append, h]; rfl
theorem map_ne {α β : Type} {f : α → β} {a : List α} {b : List β} {i : Nat} {x : α} {y : β} (hx : a[i]? = some x) (hy : b[i]? = some y) (hne : f x ≠ y) : a.map f ≠ b := fun e => by
  rw [← e] at hy
  simp [hx] at hy
  exact hne hy
set_option maxHeartbeats 1000000 in
theorem stepTo55 {x y : List Cl} {u v : List Kn} {R : V → Prop} (hx : x.length = y.length) (hx1 : 1 ≤ x.length) (hxl : x.length ≤ 1000) (hu : u.length = v.length) (hul : u.length ≤ 1000) (bx : ∀ c ∈ x, Bd 3000 c) (b_y : ∀ c ∈ y, Bd 3000 c) (bu : ∀ k ∈ u, Bd 3000 k.1)
    (h1 : shC (subC (hd y) (hd x)) x = y → shK (subC (hd y) (hd x)) u = v → R (.tup [.agg (clr (subC (hd y) (hd x))), bv true])) (h2 : ¬ (shC (subC (hd y) (hd x)) x = y ∧ shK (subC (hd y) (hd x)) u = v) → R (.tup [.agg (clr (0, 0, 0)), bv false])) : K0G Tryz.prog glX 55 [.agg [.lst 3 (cll x), .lst 5 (knl u)], .agg [.lst 3 (cll y), .lst 5 (knl v)]] R := by
  refine K0_by hmX hcD 3000 Tryz.func55 (p := onSome (cll y)[0]? fun row => onCons (List.drop 0 row) fun u_1 r => onIntK IntKind.i64 u_1 fun n => onCons r fun u_2 r => onIntK IntKind.i64 u_2 fun n_1 => onCons r fun u_3 r => onIntK IntKind.i64 u_3 fun n_2 => onSome (cll x)[0]? fun row => onCons (List.drop 0 row) fun u_4 r => onIntK IntKind.i64 u_4 fun n_3 => onCons r fun u_5 r => onIntK IntKind.i64 u_5 fun n_4 => onCons r fun u_6 r => onIntK IntKind.i64 u_6 fun n_5 => La 0 [(2 : Tmp), (3 : Tmp), (4 : Tmp), (6 : Tmp), (21 : Tmp), (22 : Tmp), (23 : Tmp)] (WY Tryz.prog cfD 2994 (Env.mk (Bs.mk 0 []) 0 none 62 55 0) (cdAt [1, 1, 0, 1, 0, 0] (bodyOf Tryz.f55))) (Qblk 0 (Qthen (WY Tryz.prog cfD 2997 (Env.mk (Bs.mk 0 []) 0 none 62 55 0) (cdAt [1, 1, 1] (bodyOf Tryz.f55)) (QendX Tryz.prog Tryz.f55 fun v h => R (frzW h v))) (QendX Tryz.prog Tryz.f55 fun v h => R (frzW h v)))) (St.mk (mkT [(2, V.ptr (Id.p 0) 0 0), (3, V.ptr (Id.p 1) 0 0), (4, V.ptr (Id.p 2) 0 0), (6, V.ptr (Id.p 3) 0 0), (21, V.lst 3 (cll x)), (22, iv (↑(cll x).length : Int)), (23, iv (0 : Int))]) (Hp.mk [(0, O.rows 2 false [[V.lst 3 (cll x), V.lst 5 (knl u)]]), (1, O.rows 2 false [[V.lst 3 (cll y), V.lst 5 (knl v)]]), (2, O.rows 3 false [[iv (0 : Int), iv (0 : Int), iv (0 : Int)]]), (3, O.rows 3 false [[iv (IntKind.i64.wrap (n - n_3)), iv (IntKind.i64.wrap (n_1 - n_4)), iv (IntKind.i64.wrap (n_2 - n_5))]])] 4 []))) (by kernel_rfl) ?_
  have e0 := bx _ (hd_mem hx1)
  have e1 := b_y _ (hd_mem (by omega))
  have db := (sub_bd e1 e0)
  unfold Bd Nr at e0 e1
  refine cel (hd_get (l := y) (by omega)) (cel (hd_get (l := x) hx1) ?_)
  rw [wr (n := (hd y).1 - _) (by omega) (by omega), wr (n := (hd y).2.1 - _) (by omega) (by omega), wr (n := (hd y).2.2 - _) (by omega) (by omega)]
  obtain ⟨d, hd⟩ : ∃ d, d = subC (hd y) (hd x) := ⟨_, rfl⟩
  rw [← hd] at h1 h2 db
  refine La.of (σ := Nat) (fun i => sh55a x y u v d i) (fun i => i ≤ x.length ∧ (x.take i).map (fun c => addC c d) = y.take i) (fun i => x.length - i) 0 (by rw [hd]; kernel_rfl) ⟨by omega, by simp⟩ ?_
  rintro i ⟨g1, g2⟩ J hJ
  refine see (p := ifB (decide ((↑i : Int) < (↑(cll x).length : Int))) (onSome (cll x)[i]? fun row => onCons (List.drop 0 row) fun u_1 r => onIntK IntKind.i64 u_1 fun n => onCons r fun u_2 r => onIntK IntKind.i64 u_2 fun n_1 => onCons r fun u_3 r => onIntK IntKind.i64 u_3 fun n_2 => onSome (cll y)[i]? fun row => onCons (List.drop 0 row) fun u_4 r => onIntK IntKind.i64 u_4 fun n_3 => onCons r fun u_5 r => onIntK IntKind.i64 u_5 fun n_4 => onCons r fun u_6 r => onIntK IntKind.i64 u_6 fun n_5 => K0G Tryz.prog glX 97 [V.agg [iv n, iv n_1, iv n_2], V.agg [iv d.1, iv d.2.1, iv d.2.2]] fun v_1 => onAgg v_1 fun cs => onCons cs fun u_7 r => onIntK IntKind.i64 u_7 fun n => onCons r fun u_8 r => onIntK IntKind.i64 u_8 fun n_6 => onCons r fun u_9 r => onIntK IntKind.i64 u_9 fun n_7 => onNil r (ifB (!(fun b => n == n_3 && b) ((fun b => n_6 == n_4 && b) ((fun b => n_7 == n_5 && b) true))) (R (V.tup [V.agg [iv (0 : Int), iv (0 : Int), iv (0 : Int)], bv false])) (J (St.mk (mkT [(2, V.ptr (Id.p 0) 0 0), (3, V.ptr (Id.p 1) 0 0), (4, V.ptr (Id.p 2) 0 0), (6, V.ptr (Id.p 3) 0 0), (21, V.lst 3 (cll x)), (22, iv (↑(cll x).length : Int)), (23, iv (IntKind.i64.wrap ((↑i : Int) + (1 : Int))))]) (Hp.mk [(0, O.rows 2 false [[V.lst 3 (cll x), V.lst 5 (knl u)]]), (1, O.rows 2 false [[V.lst 3 (cll y), V.lst 5 (knl v)]]), (2, O.rows 3 false [[iv (0 : Int), iv (0 : Int), iv (0 : Int)]]), (3, O.rows 3 false [[iv d.1, iv d.2.1, iv d.2.2]])] 4 []))))) (La 0 [(3 : Tmp), (4 : Tmp), (6 : Tmp), (40 : Tmp), (41 : Tmp), (42 : Tmp)] (WY Tryz.prog cfD 2993 (Env.mk (Bs.mk 0 []) 0 none 62 55 2) (cdAt [1, 1, 1, 0, 1, 0, 0] (bodyOf Tryz.f55))) (Qblk 2 (Qthen (WY Tryz.prog cfD 2996 (Env.mk (Bs.mk 0 []) 0 none 62 55 0) (cdAt [1, 1, 1, 1] (bodyOf Tryz.f55)) (QendX Tryz.prog Tryz.f55 fun v h => R (frzW h v))) (QendX Tryz.prog Tryz.f55 fun v h => R (frzW h v)))) (St.mk (mkT [(3, V.ptr (Id.p 0) 0 0), (4, V.ptr (Id.p 1) 0 0), (6, V.ptr (Id.p 2) 0 0), (40, V.lst 5 (knl u)), (41, iv (↑(knl u).length : Int)), (42, iv (0 : Int))]) (Hp.mk [(0, O.rows 2 false [[V.lst 3 (cll y), V.lst 5 (knl v)]]), (1, O.rows 3 false [[iv (0 : Int), iv (0 : Int), iv (0 : Int)]]), (2, O.rows 3 false [[iv d.1, iv d.2.1, iv d.2.2]])] 3 [])))) (by kernel_rfl) ?_
  refine ifB_mk (fun c => ?_) (fun c => ?_)
  · have hi : i < x.length := by rw [cll_length] at c; have := of_decide_eq_true c; omega
    obtain ⟨a, ha⟩ := getI hi
    obtain ⟨b, hb⟩ := getI (l := y) (k := i) (by omega)
    refine cel ha (cel hb (add97 (a := a) (b := d) ((bx a (mem_at ha)).mono (by omega)) (db.mono (by omega)) (onC (ifB_mk (fun e => h2 (fun q => ?_)) (fun e => ?_)))))
    · have hne : addC a d ≠ b := fun e' => by rw [e'] at e; simp at e
      exact map_ne ha hb hne q.1
    · have exy : addC a d = b := by
        simp only [Bool.not_eq_false', Bool.and_eq_true, beq_iff_eq, Bool.and_true] at e
        exact cl_ext e.1 e.2.1 e.2.2
      rw [wr1i hi (by omega)]
      exact hJ (i + 1) ⟨hi, map_take_eq g2 ha (by rw [hb, exy])⟩ (by omega)
  · have hi : x.length ≤ i := by rw [cll_length] at c; have := of_decide_eq_false c; omega
    rw [List.take_of_length_le hi, List.take_of_length_le (by omega)] at g2
    clear hJ g1
    refine La.of (σ := Nat) (fun i => sh55b y u v d i) (fun i => i ≤ u.length ∧ (u.take i).map (fun k : Kn => ((addC k.1 d, k.2) : Kn)) = v.take i) (fun i => u.length - i) 0 (by kernel_rfl) ⟨by omega, by simp⟩ ?_
    clear hi
    rintro i ⟨f1, f2⟩ I hI
    refine see (p := ifB (decide ((↑i : Int) < (↑(knl u).length : Int))) (onSome (knl u)[i]? fun row => onCons (List.drop 0 row) fun u_1 r => onIntK IntKind.i64 u_1 fun n => onCons r fun u_2 r => onIntK IntKind.i64 u_2 fun n_1 => onCons r fun u_3 r => onIntK IntKind.i64 u_3 fun n_2 => onCons r fun u_4 r => onIntK IntKind.u8 u_4 fun n_3 => onCons r fun u_5 r => onIntK IntKind.u8 u_5 fun n_4 => K0G Tryz.prog glX 97 [V.agg [iv n, iv n_1, iv n_2], V.agg [iv d.1, iv d.2.1, iv d.2.2]] fun v_1 => onAgg v_1 fun cs => onCons cs fun u_6 r => onIntK IntKind.i64 u_6 fun n => onCons r fun u_7 r => onIntK IntKind.i64 u_7 fun n_5 => onCons r fun u_8 r => onIntK IntKind.i64 u_8 fun n_6 => onNil r (onSome (knl v)[i]? fun row => onCons (List.drop 0 row) fun u_9 r => onIntK IntKind.i64 u_9 fun n_7 => onCons r fun u_10 r => onIntK IntKind.i64 u_10 fun n_8 => onCons r fun u_11 r => onIntK IntKind.i64 u_11 fun n_9 => onCons r fun u_12 r => onIntK IntKind.u8 u_12 fun n_10 => onCons r fun u_13 r => onIntK IntKind.u8 u_13 fun n_11 => ifB (!(fun b => (fun b => n == n_7 && b) ((fun b => n_5 == n_8 && b) ((fun b => n_6 == n_9 && b) true)) && b) ((fun b => n_3 == n_10 && b) ((fun b => n_4 == n_11 && b) true))) (R (V.tup [V.agg [iv (0 : Int), iv (0 : Int), iv (0 : Int)], bv false])) (I (St.mk (mkT [(3, V.ptr (Id.p 0) 0 0), (4, V.ptr (Id.p 1) 0 0), (6, V.ptr (Id.p 2) 0 0), (40, V.lst 5 (knl u)), (41, iv (↑(knl u).length : Int)), (42, iv (IntKind.i64.wrap ((↑i : Int) + (1 : Int))))]) (Hp.mk [(0, O.rows 2 false [[V.lst 3 (cll y), V.lst 5 (knl v)]]), (1, O.rows 3 false [[iv (0 : Int), iv (0 : Int), iv (0 : Int)]]), (2, O.rows 3 false [[iv d.1, iv d.2.1, iv d.2.2]])] 3 []))))) (R (V.tup [V.agg [iv d.1, iv d.2.1, iv d.2.2], bv true]))) (by kernel_rfl) ?_
    refine ifB_mk (fun c => ?_) (fun c => ?_)
    · have hi : i < u.length := by rw [knl_length] at c; have := of_decide_eq_true c; omega
      obtain ⟨a, ha⟩ := getI hi
      obtain ⟨b, hb⟩ := getI (l := v) (k := i) (by omega)
      refine kel ha (add97 (a := a.1) (b := d) ((bu a (mem_at ha)).mono (by omega)) (db.mono (by omega)) (onC (kel hb (ifB_mk (fun e => h2 (fun q => ?_)) (fun e => ?_)))))
      · have hne : ((addC a.1 d, a.2) : Kn) ≠ b := fun e' => by rw [← e'] at e; simp at e
        exact map_ne (f := fun k : Kn => ((addC k.1 d, k.2) : Kn)) ha hb hne q.2
      · have exy : ((addC a.1 d, a.2) : Kn) = b := by
          simp only [Bool.not_eq_false', Bool.and_eq_true, beq_iff_eq, Bool.and_true] at e
          exact kn_ext e.1.1 e.1.2.1 e.1.2.2 e.2.1 e.2.2
        rw [wr1i hi (by omega)]
        exact hI (i + 1) ⟨hi, map_take_eq f2 ha (by rw [hb, ← exy])⟩ (by omega)
    · have hi : u.length ≤ i := by rw [knl_length] at c; have := of_decide_eq_false c; omega
      rw [List.take_of_length_le hi, List.take_of_length_le (by omega)] at f2
      exact h1 g2 f2
end Go.Proofs.YtbionhgjgcpogaaGreatDoor
namespace Go.Proofs.YtbionhgjgcpogaaGreatDoor
open Go Go.Proofs.YtbionhgjgcpogaaGreatDoor.Clean
set_option linter.unusedVariables false
set_option linter.unusedSimpArgs false
set_option maxRecDepth 10000
end Go.Proofs.YtbionhgjgcpogaaGreatDoor
namespace Go.Proofs.YtbionhgjgcpogaaGreatDoor
open Go Go.Proofs.YtbionhgjgcpogaaGreatDoor.Clean
set_option linter.unusedVariables false
set_option maxRecDepth 100000
end Go.Proofs.YtbionhgjgcpogaaGreatDoor
namespace Go.Proofs.YtbionhgjgcpogaaGreatDoor
open Go Go.Proofs.YtbionhgjgcpogaaGreatDoor.Clean
set_option linter.unusedVariables false
set_option maxRecDepth 100000
end Go.Proofs.YtbionhgjgcpogaaGreatDoor
namespace Go.Proofs.YtbionhgjgcpogaaGreatDoor
open Go Go.Proofs.YtbionhgjgcpogaaGreatDoor.Clean
set_option linter.unusedVariables false
set_option linter.unusedSimpArgs false
set_option maxRecDepth 10000
theorem hcE : cfE.ok Tryz.prog := by
  have h : (cfgG Tryz.prog glX moD poP (rtP fN) (inN [54, 94, 62, 78]) kpE).ok Tryz.prog := cfgG_ok (rtP_ok fN)
  exact ⟨h.1, h.2⟩
theorem KindP.put {q : Kd} (h : KindP q) (hr : KdR q) : KnbP q := by
  obtain ⟨⟨⟨c1, c2⟩, c3, c4⟩, ⟨k1, k2, k3⟩, w⟩ := h
  exact ⟨⟨c3, by omega, fun k hk => ⟨c3 _ (k2 k hk).2.2.1, (hr.1 k hk).1.1, (k2 k hk).1⟩, by omega⟩, k3⟩
end Go.Proofs.YtbionhgjgcpogaaGreatDoor
namespace Go.Proofs.YtbionhgjgcpogaaGreatDoor
open Go Go.Proofs.YtbionhgjgcpogaaGreatDoor.Clean
set_option linter.unusedVariables false
set_option linter.unusedSimpArgs false
set_option maxRecDepth 10000
noncomputable def symF (q : Kd) (k : Nat) : List Int := ((List.range k).filter fun t => dc (LikeP q t 0 (0, 0, 0))).map fun t : Nat => (t : Int)
theorem symF_succ (q : Kd) (k : Nat) : symF q (k + 1) = if dc (LikeP q k 0 (0, 0, 0)) = true then symF q k ++ [(k : Int)] else symF q k := by
  unfold symF
  rw [List.range_succ, List.filter_append, List.map_append]
  split
  · rename_i h; simp [h]
  · rename_i h; simp [h]
theorem symF_len (q : Kd) (k : Nat) : (symF q k).length ≤ k := by
  unfold symF
  rw [List.length_map]
  exact Nat.le_trans (List.length_filter_le _ _) (by simp)
theorem symF_pos {q : Kd} (h : 1 ≤ q.1.length) : 0 < (symF q 24).length := by
  have : (0 : Int) ∈ symF q 24 := List.mem_map.2 ⟨0, List.mem_filter.2 ⟨List.mem_range.2 (by omega), dc_t (like_self h)⟩, rfl⟩
  exact List.length_pos_of_mem this
noncomputable def fam18 (q : Kd) (i : Nat) : St := match (symF q i).length with | 0 => sh18n q i | _ + 1 => sh18s q i (symF q i)
theorem nl_app (L : List Int) (x : Int) : List.take L.length (nl L) ++ [[iv x]] = nl (L ++ [x]) := by rw [← nl_length, List.take_length]; simp [nl]
theorem sub_nl (L : List Int) : sub (nl L) 0 L.length = nl L := by rw [sub, List.drop_zero, ← nl_length, List.take_length]
theorem sortK_id {l : List Kn} (h : l.Pairwise BefK) : sortK l = l := (sortK_uniq (Fac.of h) (List.Perm.refl _) (h.imp (fun h => BefK.asy h))).symm
theorem plc_id {q : Kd} (h : CellsP q.1) : plc q 0 (0, 0, 0) = q.1 := by
  have : (q.1.map fun c => addC (tn 0 c) (0, 0, 0)) = q.1 := by
    conv => rhs; rw [← List.map_id q.1]
    exact List.map_congr_left fun c _ => by rw [addC_zero]; rfl
  unfold plc
  rw [this]
  exact (sortC_uniq (List.Perm.refl _) (h.2.2.imp (fun h => Bef.asy h))).symm
theorem knb_id {q : Kd} (h : PutP q) : knb q 0 (0, 0, 0) = q.2.1 := by
  unfold knb
  conv => rhs; rw [← List.map_id q.2.1]
  refine List.map_congr_left fun k hk => ?_
  rw [addC_zero, pt0 (h.2.2.1 k hk).2]
  rfl
theorem knb0_bd {q : Kd} {t : Nat} (hq : PutP q) : ∀ k ∈ knb q t (0, 0, 0), Bd 15 k.1 := fun k hk => by
  obtain ⟨x, hx, rfl⟩ := List.mem_map.1 hk
  exact (add_bd (tn_bd ((hq.2.2.1 x hx).1.mono (c := -15) (d := 15) (by omega) (by omega))) (Bd0 0 (by omega))).mono (by omega)
theorem walk {q : Kd} {t n : Nat} {at_ : Cl} {K : Int → Int → Int → Bool → Prop} (hP : KnbP q) (hpos : 1 ≤ q.1.length) (ht : t < 24) (hn : n < 24) (hb : Bd 1000 at_) (h1 : LikeP q t n at_ → K (cAt q t n at_).1 (cAt q t n at_).2.1 (cAt q t n at_).2.2 true) (h2 : ¬ LikeP q t n at_ → K 0 0 0 false) :
    K0G Tryz.prog glX 95 [.agg (kdr q), iv (t : Int), .agg (clr (0, 0, 0))] fun v => onAgg v fun cs => onCons cs fun u_1 r => onLst u_1 fun s es => onCons r fun u_2 r => onLst u_2 fun s_6 es_6 => onNil r (K0G Tryz.prog glX 61 [V.agg [V.lst s es, V.lst s_6 es_6]] fun v => onAgg v fun cs => onCons cs fun u_3 r => onLst u_3 fun s es => onCons r fun u_4 r => onLst u_4 fun s_7 es_7 => onNil r (K0G Tryz.prog glX 55 [V.agg [V.lst s es, V.lst s_7 es_7], V.agg [V.lst 3 (cll (plc q n at_)), V.lst 5 (knl (sortK (knb q n at_)))]] fun v => onTup v fun vs => onCons vs fun u_5 r => onAgg u_5 fun cs => onCons cs fun u_6 r_1 => onIntK IntKind.i64 u_6 fun n => onCons r_1 fun u_7 r_2 => onIntK IntKind.i64 u_7 fun n_2 => onCons r_2 fun u_8 r_3 => onIntK IntKind.i64 u_8 fun n_3 => onNil r_3 (onCons r fun u_9 r => onBool u_9 fun b_1 => onNil r (K n n_2 n_3 b_1)))) := by
  have hq := hP.put
  have h60 := hq.2.2.2
  have h30 := hq.2.1
  refine put95 (by_ := (0, 0, 0)) ht hq (Bd0 _ (by omega)) (onAgg_agg (onCons_cons (onLst_lst (onCons_cons (onLst_lst (onNil_nil ?_))))))
  refine sorted61 (by rw [knb_length]; omega) (knb_fac hP ht) (onAgg_agg (onCons_cons (onLst_lst (onCons_cons (onLst_lst (onNil_nil ?_))))))
  have key := look_iff (t := t) (n := n) (at_ := at_) hP ht hn
  refine stepTo55 (by rw [plc_length, plc_length]) (by rw [plc_length]; exact hpos) (by rw [plc_length]; omega) (by rw [sortK_length, sortK_length, knb_length, knb_length]) (by rw [sortK_length, knb_length]; omega) (fun c hc => (plc0_bd hq c hc).mono (by omega)) (fun c hc => (plc1_bd hq hb c hc).mono (by omega)) (fun k hk => (knb0_bd hq k ((sortK_perm _).mem_iff.1 hk)).mono (by omega)) (fun a b => ?_) (fun a => ?_)
  · exact h1 (key.1 ⟨a, b⟩)
  · exact h2 (fun x => a (key.2 x))
set_option maxHeartbeats 1000000 in
theorem sym18 {q : Kd} {R : V → Prop} (hr : KdR q) (h1 : KindP q → R (.tup [.lst 1 (nl (symF q 24)), iv 0])) (h2 : ¬ KindP q → R (.tup [nilS, iv 10])) : K0G Tryz.prog glX 18 [.agg (kdr q)] R := by
  refine K0_by hmX hcE 3000 Tryz.func18 (p := K0G Tryz.prog glX 14 [V.agg [V.lst 3 (cll q.1), V.lst 5 (knl q.2.1), iv q.2.2]] fun v => onIntK IntKind.i64 v fun n => ifB (n != (0 : Int)) (R (V.tup [nilS, iv n])) (La 4 [(0 : Tmp), (1 : Tmp), (4 : Tmp)] (WY Tryz.prog cfE 2990 (Env.mk (Bs.mk 0 (spared [] [V.yl (Id.p 3), V.ptr (Id.p 2) 0 0] ++ [])) 4 none 17 94 0) (cdAt [1, 0, 0] (bodyOf Tryz.f94))) (Qblk 0 (QendX Tryz.prog Tryz.f94 fun v h' => kontY (WY Tryz.prog cfE 2993) (Env.mk (Bs.mk 0 []) 0 none 35 18 0) (Qblk 0 (Qthen (WY Tryz.prog cfE 2996 (Env.mk (Bs.mk 0 []) 0 none 35 18 0) (cdAt [1, 1, 1, 1] (bodyOf Tryz.f18)) (QendX Tryz.prog Tryz.f18 fun v h => R (frzW h v))) (QendX Tryz.prog Tryz.f18 fun v h => R (frzW h v)))) (mkT [(0, V.agg [V.lst 3 (cll q.1), V.lst 5 (knl q.2.1), iv q.2.2]), (1, V.ptr (Id.p 0) 0 0), (2, nilS), (3, iv (0 : Int)), (4, iv n), (5, V.ptr (Id.p 1) 0 0), (10, V.agg [V.lst 3 (cll q.1), V.lst 5 (knl q.2.1), iv q.2.2]), (11, iv n), (12, iv n), (13, bv (n != (0 : Int))), (15, V.agg [V.lst 3 (cll q.1), V.lst 5 (knl q.2.1), iv q.2.2]), (16, V.fn (Fn.func 94) [] [V.ptr (Id.p 2) 0 0])]) 3 v (bif cfE.clean 94 then gcH 4 v h' else h'))) (St.mk (mkT [(0, V.yl (Id.p 3)), (1, V.ptr (Id.p 2) 0 0), (4, iv (0 : Int))]) (Hp.mk [(3, O.lp (Lr.mk LoopState.ready none (mkT [(0, V.agg [V.lst 3 (cll q.1), V.lst 5 (knl q.2.1), iv q.2.2]), (1, V.ptr (Id.p 0) 0 0), (2, nilS), (3, iv (0 : Int)), (4, iv n), (5, V.ptr (Id.p 1) 0 0), (10, V.agg [V.lst 3 (cll q.1), V.lst 5 (knl q.2.1), iv q.2.2]), (11, iv n), (12, iv n), (13, bv (n != (0 : Int))), (15, V.agg [V.lst 3 (cll q.1), V.lst 5 (knl q.2.1), iv q.2.2]), (16, V.fn (Fn.func 94) [] [V.ptr (Id.p 2) 0 0])]) 35 (Array.mk [17, 18]) (rfA (cdAt [1, 1, 1, 0, 1, 0] (bodyOf Tryz.f18))) (rfB (cdAt [1, 1, 1, 0, 1, 0] (bodyOf Tryz.f18))) 18)), (2, O.rows 3 false [[V.lst 3 (cll q.1), V.lst 5 (knl q.2.1), iv q.2.2]]), (1, O.rows 1 false [[nilS]]), (0, O.rows 3 false [[V.lst 3 (cll q.1), V.lst 5 (knl q.2.1), iv q.2.2]])] 4 [])))) (by kernel_rfl) ?_
  refine kind14 hr (fun hK => onIntK_iv (ifB_f rfl ?_)) (fun hn => onIntK_iv (ifB_t rfl (h2 hn)))
  have hP := hK.put hr
  have hpos := hK.1.1.1
  refine La.of (σ := Nat) (fam18 q) (fun i => i ≤ 24) (fun i => 24 - i) 0 (by kernel_rfl) (by omega) ?_
  intro i g1 J hJ
  have wk : ∀ {K : Int → Int → Int → Bool → Prop}, i < 24 → (LikeP q i 0 (0, 0, 0) → ∀ a b c, K a b c true) → (¬ LikeP q i 0 (0, 0, 0) → ∀ a b c, K a b c false) → _ := fun {K} hi k1 k2 => walk (K := K) (n := 0) (at_ := (0, 0, 0)) hP hpos hi (by omega) (Bd0 _ (by omega)) (fun a => k1 a _ _ _) (fun a => k2 a _ _ _)
  rw [plc_id hK.1, knb_id hP.put, sortK_id hP.pw] at wk
  have hlen := symF_len q i
  have nxt := fun (hi : i < 24) => hJ (i + 1) hi (by omega)
  have hs := symF_succ q i
  cases hL : (symF q i).length with
  | zero =>
    have hnil : symF q i = [] := List.length_eq_zero_iff.1 hL
    have hst : fam18 q i = sh18n q i := by simp only [fam18, hL]
    rw [hst]
    refine see (p := ifB (decide ((↑i : Int) < (24 : Int))) (K0G Tryz.prog glX 95 [V.agg [V.lst 3 (cll q.1), V.lst 5 (knl q.2.1), iv q.2.2], iv (↑i : Int), V.agg [iv (0 : Int), iv (0 : Int), iv (0 : Int)]] fun v => onAgg v fun cs => onCons cs fun u r => onLst u fun s es => onCons r fun u r => onLst u fun s_1 es_1 => onNil r (K0G Tryz.prog glX 61 [V.agg [V.lst s es, V.lst s_1 es_1]] fun v => onAgg v fun cs => onCons cs fun u r => onLst u fun s es => onCons r fun u r => onLst u fun s_2 es_2 => onNil r (K0G Tryz.prog glX 55 [V.agg [V.lst s es, V.lst s_2 es_2], V.agg [V.lst 3 (cll q.1), V.lst 5 (knl q.2.1)]] fun v => onTup v fun vs => onCons vs fun u r => onAgg u fun cs => onCons cs fun u r_1 => onIntK IntKind.i64 u fun n => onCons r_1 fun u r_2 => onIntK IntKind.i64 u fun n => onCons r_2 fun u r_3 => onIntK IntKind.i64 u fun n => onNil r_3 (onCons r fun u r => onBool u fun b => onNil r (ifB b (J (St.mk (mkT [(0, V.yl (Id.p 3)), (1, V.ptr (Id.p 2) 0 0), (4, iv (IntKind.i64.wrap ((↑i : Int) + (1 : Int))))]) (Hp.mk [(3, O.lp (Lr.mk LoopState.ready none (mkT [(0, V.agg [V.lst 3 (cll q.1), V.lst 5 (knl q.2.1), iv q.2.2]), (1, V.ptr (Id.p 0) 0 0), (2, nilS), (3, iv (0 : Int)), (4, iv (0 : Int)), (5, V.ptr (Id.p 1) 0 0), (10, V.agg [V.lst 3 (cll q.1), V.lst 5 (knl q.2.1), iv q.2.2]), (11, iv (0 : Int)), (12, iv (0 : Int)), (13, bv false), (15, V.agg [V.lst 3 (cll q.1), V.lst 5 (knl q.2.1), iv q.2.2]), (16, V.fn (Fn.func (94 : FuncId)) [] [V.ptr (Id.p 2) 0 0])]) 35 (Array.mk [17, 18]) (rfA (cdAt [1, 1, 1, 0, 1, 0] (bodyOf Tryz.f18))) (rfB (cdAt [1, 1, 1, 0, 1, 0] (bodyOf Tryz.f18))) 18)), (1, O.rows 1 false [[V.sl (Id.p 4) 0 1]]), (2, O.rows 3 false [[V.lst 3 (cll q.1), V.lst 5 (knl q.2.1), iv q.2.2]]), (0, O.rows 3 false [[V.lst 3 (cll q.1), V.lst 5 (knl q.2.1), iv q.2.2]]), (4, O.rows 1 true [[iv (↑i : Int)]])] 5 []))) (J (St.mk (mkT [(0, V.yl (Id.p 3)), (1, V.ptr (Id.p 2) 0 0), (4, iv (IntKind.i64.wrap ((↑i : Int) + (1 : Int))))]) (Hp.mk [(3, O.lp (Lr.mk LoopState.ready none (mkT [(0, V.agg [V.lst 3 (cll q.1), V.lst 5 (knl q.2.1), iv q.2.2]), (1, V.ptr (Id.p 0) 0 0), (2, nilS), (3, iv (0 : Int)), (4, iv (0 : Int)), (5, V.ptr (Id.p 1) 0 0), (10, V.agg [V.lst 3 (cll q.1), V.lst 5 (knl q.2.1), iv q.2.2]), (11, iv (0 : Int)), (12, iv (0 : Int)), (13, bv false), (15, V.agg [V.lst 3 (cll q.1), V.lst 5 (knl q.2.1), iv q.2.2]), (16, V.fn (Fn.func (94 : FuncId)) [] [V.ptr (Id.p 2) 0 0])]) 35 (Array.mk [17, 18]) (rfA (cdAt [1, 1, 1, 0, 1, 0] (bodyOf Tryz.f18))) (rfB (cdAt [1, 1, 1, 0, 1, 0] (bodyOf Tryz.f18))) 18)), (2, O.rows 3 false [[V.lst 3 (cll q.1), V.lst 5 (knl q.2.1), iv q.2.2]]), (1, O.rows 1 false [[nilS]]), (0, O.rows 3 false [[V.lst 3 (cll q.1), V.lst 5 (knl q.2.1), iv q.2.2]])] 4 [])))))))) (R (V.tup [nilS, iv (0 : Int)]))) (by kernel_rfl) ?_
    refine ifB_mk (fun d => ?_) (fun d => ?_)
    · have hi : i < 24 := by have := of_decide_eq_true d; omega
      have nxt := nxt hi
      refine wk hi (fun e _ _ _ => ifB_t rfl ?_) (fun e _ _ _ => ifB_f rfl ?_)
      · rw [if_pos (dc_t e), hnil] at hs
        have hst : fam18 q (i + 1) = sh18s q (i + 1) [(i : Int)] := by simp only [fam18, hs]; rfl
        rw [hst] at nxt
        rw [wr1i hi (by omega)]
        exact nxt
      · rw [if_neg (by rw [dc_f e]; decide), hnil] at hs
        have hst : fam18 q (i + 1) = sh18n q (i + 1) := by simp only [fam18, hs]; rfl
        rw [hst] at nxt
        rw [wr1i hi (by omega)]
        exact nxt
    · have hi : i = 24 := by have := of_decide_eq_false d; omega
      subst hi
      have := symF_pos (q := q) hpos
      omega
  | succ m =>
    have hst : fam18 q i = sh18s q i (symF q i) := by simp only [fam18, hL]
    rw [hst]
    generalize hG : symF q i = L
    rw [hG] at hs hlen hL
    refine see (p := ifB (decide ((↑i : Int) < (24 : Int))) (K0G Tryz.prog glX 95 [V.agg [V.lst 3 (cll q.1), V.lst 5 (knl q.2.1), iv q.2.2], iv (↑i : Int), V.agg [iv (0 : Int), iv (0 : Int), iv (0 : Int)]] fun v => onAgg v fun cs => onCons cs fun u r => onLst u fun s es => onCons r fun u r => onLst u fun s_1 es_1 => onNil r (K0G Tryz.prog glX 61 [V.agg [V.lst s es, V.lst s_1 es_1]] fun v => onAgg v fun cs => onCons cs fun u r => onLst u fun s_2 es_2 => onCons r fun u r => onLst u fun s_3 es_3 => onNil r (K0G Tryz.prog glX 55 [V.agg [V.lst s_2 es_2, V.lst s_3 es_3], V.agg [V.lst 3 (cll q.1), V.lst 5 (knl q.2.1)]] fun v => onTup v fun vs => onCons vs fun u r => onAgg u fun cs => onCons cs fun u r_1 => onIntK IntKind.i64 u fun n => onCons r_1 fun u r_2 => onIntK IntKind.i64 u fun n_1 => onCons r_2 fun u r_3 => onIntK IntKind.i64 u fun n_2 => onNil r_3 (onCons r fun u r => onBool u fun b => onNil r (ifB b (need ((L.length + 1) * 8 ≤ 140737488355328) (J (St.mk (mkT [(0, V.yl (Id.p 3)), (1, V.ptr (Id.p 2) 0 0), (4, iv (IntKind.i64.wrap ((↑i : Int) + (1 : Int))))]) (Hp.mk [(3, O.lp (Lr.mk LoopState.ready none (mkT [(0, V.agg [V.lst 3 (cll q.1), V.lst 5 (knl q.2.1), iv q.2.2]), (1, V.ptr (Id.p 0) 0 0), (2, nilS), (3, iv (0 : Int)), (4, iv (0 : Int)), (5, V.ptr (Id.p 1) 0 0), (10, V.agg [V.lst 3 (cll q.1), V.lst 5 (knl q.2.1), iv q.2.2]), (11, iv (0 : Int)), (12, iv (0 : Int)), (13, bv false), (15, V.agg [V.lst 3 (cll q.1), V.lst 5 (knl q.2.1), iv q.2.2]), (16, V.fn (Fn.func (94 : FuncId)) [] [V.ptr (Id.p 2) 0 0])]) 35 (Array.mk [17, 18]) (rfA (cdAt [1, 1, 1, 0, 1, 0] (bodyOf Tryz.f18))) (rfB (cdAt [1, 1, 1, 0, 1, 0] (bodyOf Tryz.f18))) 18)), (1, O.rows 1 false [[V.sl (Id.p 4) 0 (L.length + 1)]]), (2, O.rows 3 false [[V.lst 3 (cll q.1), V.lst 5 (knl q.2.1), iv q.2.2]]), (0, O.rows 3 false [[V.lst 3 (cll q.1), V.lst 5 (knl q.2.1), iv q.2.2]]), (4, O.rows 1 true (List.take L.length (nl L) ++ [[iv (↑i : Int)]]))] 5 [])))) (J (St.mk (mkT [(0, V.yl (Id.p 3)), (1, V.ptr (Id.p 2) 0 0), (4, iv (IntKind.i64.wrap ((↑i : Int) + (1 : Int))))]) (Hp.mk [(3, O.lp (Lr.mk LoopState.ready none (mkT [(0, V.agg [V.lst 3 (cll q.1), V.lst 5 (knl q.2.1), iv q.2.2]), (1, V.ptr (Id.p 0) 0 0), (2, nilS), (3, iv (0 : Int)), (4, iv (0 : Int)), (5, V.ptr (Id.p 1) 0 0), (10, V.agg [V.lst 3 (cll q.1), V.lst 5 (knl q.2.1), iv q.2.2]), (11, iv (0 : Int)), (12, iv (0 : Int)), (13, bv false), (15, V.agg [V.lst 3 (cll q.1), V.lst 5 (knl q.2.1), iv q.2.2]), (16, V.fn (Fn.func (94 : FuncId)) [] [V.ptr (Id.p 2) 0 0])]) 35 (Array.mk [17, 18]) (rfA (cdAt [1, 1, 1, 0, 1, 0] (bodyOf Tryz.f18))) (rfB (cdAt [1, 1, 1, 0, 1, 0] (bodyOf Tryz.f18))) 18)), (1, O.rows 1 false [[V.sl (Id.p 4) 0 L.length]]), (2, O.rows 3 false [[V.lst 3 (cll q.1), V.lst 5 (knl q.2.1), iv q.2.2]]), (0, O.rows 3 false [[V.lst 3 (cll q.1), V.lst 5 (knl q.2.1), iv q.2.2]]), (4, O.rows 1 true (nl L))] 5 [])))))))) (R (V.tup [V.lst 1 (sub (nl L) 0 L.length), iv (0 : Int)]))) (by kernel_rfl) ?_
    refine ifB_mk (fun d => ?_) (fun d => ?_)
    · have hi : i < 24 := by have := of_decide_eq_true d; omega
      have nxt := nxt hi
      refine wk hi (fun e _ _ _ => ifB_t rfl (need_mk ⟨by omega, ?_⟩)) (fun e _ _ _ => ifB_f rfl ?_)
      · rw [if_pos (dc_t e)] at hs
        have hst : fam18 q (i + 1) = sh18s q (i + 1) (L ++ [(i : Int)]) := by simp only [fam18, hs]; simp
        rw [hst] at nxt
        rw [wr1i hi (by omega), nl_app]
        exact hJ' (by simp [sh18s, kdr, rec18]) nxt
      · rw [if_neg (by rw [dc_f e]; decide)] at hs
        have hst : fam18 q (i + 1) = sh18s q (i + 1) L := by simp only [fam18, hs, hL]
        rw [hst] at nxt
        rw [wr1i hi (by omega)]
        exact nxt
    · have hi : i = 24 := by have := of_decide_eq_false d; omega
      subst hi
      rw [sub_nl, ← hG]
      exact h1 hK
end Go.Proofs.YtbionhgjgcpogaaGreatDoor
namespace Go.Proofs.YtbionhgjgcpogaaGreatDoor
open Go Go.Proofs.YtbionhgjgcpogaaGreatDoor.Clean
set_option linter.unusedVariables false
set_option maxRecDepth 100000
end Go.Proofs.YtbionhgjgcpogaaGreatDoor
namespace Go.Proofs.YtbionhgjgcpogaaGreatDoor
open Go Go.Proofs.YtbionhgjgcpogaaGreatDoor.Clean
set_option linter.unusedVariables false
set_option linter.unusedSimpArgs false
set_option maxRecDepth 10000
theorem great12' {l : List Kd} {R : V → Prop} (h : R (bv (dc (GreatP l [])))) : K0G Tryz.prog glX 12 [.lst 3 (kdl l), .agg [nilS]] R :=
  K0_args (great12 (m := []) h) (fun F w xs hx => by
    simp [riL, ri, riRows, bkl, nilS] at hx ⊢
    obtain ⟨x, r, e, h1, y, e2, vs, e3, e4⟩ := hx
    exact ⟨x, r, e, h1, y, e2, vs, e3, _, e4, .inl rfl⟩)
theorem PutB.same {l : List Kd} {b : Bk} {q q' : Kd} {n n' : Nat} (h : PutB l b q n) (h' : PutB l b q' n') : q = q' ∧ n = n' := by
  have e := h.at_
  rw [h'.at_] at e
  have t := h.turn
  rw [h'.turn] at t
  exact ⟨by cases e; rfl, by omega⟩
theorem GreatP.not {l : List Kd} (h : ¬ GreatP l []) (hr : ∀ q ∈ l, ∀ k ∈ q.2.1, KnR k) : l.length ≤ 20 ∧ ∀ q ∈ l, KdR q := by
  refine ⟨Nat.le_of_not_lt fun x => h (.inl x), fun q hq => ⟨hr q hq, Nat.le_of_not_lt fun x => h (.inr (.inr ⟨q, hq, .inl x⟩)), Nat.le_of_not_lt fun x => h (.inr (.inr ⟨q, hq, .inr x⟩))⟩⟩
end Go.Proofs.YtbionhgjgcpogaaGreatDoor
namespace Go.Proofs.YtbionhgjgcpogaaGreatDoor
open Go Go.Proofs.YtbionhgjgcpogaaGreatDoor.Clean
set_option linter.unusedVariables false
set_option maxRecDepth 100000
def clX (g : FuncId) : Bool := !(inN [104, 110, 129, 132, 135, 145, 146, 147, 148, 150, 151, 152, 153, 157, 158, 159, 161, 162, 163, 164, 166, 167, 168, 170, 171, 172, 173, 174, 176, 179, 182, 120, 94] g)
abbrev KFX (f : Fact) : Prop := K0G Tryz.prog glX f.g f.args fun v => v = f.r
end Go.Proofs.YtbionhgjgcpogaaGreatDoor
namespace Go.Proofs.YtbionhgjgcpogaaGreatDoor
open Go Go.Proofs.YtbionhgjgcpogaaGreatDoor.Clean
set_option linter.unusedVariables false
set_option linter.unusedSimpArgs false
set_option maxRecDepth 100000
def compL : List (List Nat) := [[0, 1, 2, 3, 4, 5, 6, 7, 8, 9, 10, 11, 12, 13, 14, 15, 16, 17, 18, 19, 20, 21, 22, 23], [1, 2, 3, 0, 5, 6, 7, 4, 9, 10, 11, 8, 13, 14, 15, 12, 17, 18, 19, 16, 21, 22, 23, 20], [2, 3, 0, 1, 6, 7, 4, 5, 10, 11, 8, 9, 14, 15, 12, 13, 18, 19, 16, 17, 22, 23, 20, 21], [3, 0, 1, 2, 7, 4, 5, 6, 11, 8, 9, 10, 15, 12, 13, 14, 19, 16, 17, 18, 23, 20, 21, 22], [4, 16, 14, 20, 8, 17, 2, 23, 12, 18, 6, 22, 0, 19, 10, 21, 11, 15, 3, 7, 9, 5, 1, 13], [5, 17, 15, 21, 9, 18, 3, 20, 13, 19, 7, 23, 1, 16, 11, 22, 8, 12, 0, 4, 10, 6, 2, 14], [6, 18, 12, 22, 10, 19, 0, 21, 14, 16, 4, 20, 2, 17, 8, 23, 9, 13, 1, 5, 11, 7, 3, 15], [7, 19, 13, 23, 11, 16, 1, 22, 15, 17, 5, 21, 3, 18, 9, 20, 10, 14, 2, 6, 8, 4, 0, 12], [8, 11, 10, 9, 12, 15, 14, 13, 0, 3, 2, 1, 4, 7, 6, 5, 22, 21, 20, 23, 18, 17, 16, 19], [9, 8, 11, 10, 13, 12, 15, 14, 1, 0, 3, 2, 5, 4, 7, 6, 23, 22, 21, 20, 19, 18, 17, 16], [10, 9, 8, 11, 14, 13, 12, 15, 2, 1, 0, 3, 6, 5, 4, 7, 20, 23, 22, 21, 16, 19, 18, 17], [11, 10, 9, 8, 15, 14, 13, 12, 3, 2, 1, 0, 7, 6, 5, 4, 21, 20, 23, 22, 17, 16, 19, 18], [12, 22, 6, 18, 0, 21, 10, 19, 4, 20, 14, 16, 8, 23, 2, 17, 1, 5, 9, 13, 3, 15, 11, 7], [13, 23, 7, 19, 1, 22, 11, 16, 5, 21, 15, 17, 9, 20, 3, 18, 2, 6, 10, 14, 0, 12, 8, 4], [14, 20, 4, 16, 2, 23, 8, 17, 6, 22, 12, 18, 10, 21, 0, 19, 3, 7, 11, 15, 1, 13, 9, 5], [15, 21, 5, 17, 3, 20, 9, 18, 7, 23, 13, 19, 11, 22, 1, 16, 0, 4, 8, 12, 2, 14, 10, 6], [16, 14, 20, 4, 17, 2, 23, 8, 18, 6, 22, 12, 19, 10, 21, 0, 15, 3, 7, 11, 5, 1, 13, 9], [17, 15, 21, 5, 18, 3, 20, 9, 19, 7, 23, 13, 16, 11, 22, 1, 12, 0, 4, 8, 6, 2, 14, 10], [18, 12, 22, 6, 19, 0, 21, 10, 16, 4, 20, 14, 17, 8, 23, 2, 13, 1, 5, 9, 7, 3, 15, 11], [19, 13, 23, 7, 16, 1, 22, 11, 17, 5, 21, 15, 18, 9, 20, 3, 14, 2, 6, 10, 4, 0, 12, 8], [20, 4, 16, 14, 23, 8, 17, 2, 22, 12, 18, 6, 21, 0, 19, 10, 7, 11, 15, 3, 13, 9, 5, 1], [21, 5, 17, 15, 20, 9, 18, 3, 23, 13, 19, 7, 22, 1, 16, 11, 4, 8, 12, 0, 14, 10, 6, 2], [22, 6, 18, 12, 21, 10, 19, 0, 20, 14, 16, 4, 23, 2, 17, 8, 5, 9, 13, 1, 15, 11, 7, 3], [23, 7, 19, 13, 22, 11, 16, 1, 21, 15, 17, 5, 20, 3, 18, 9, 6, 10, 14, 2, 12, 8, 4, 0]]
def comp (a b : Nat) : Nat := (compL.getD a []).getD b 0
theorem all24 {P : Nat → Prop} (h0 : P 0) (h1 : P 1) (h2 : P 2) (h3 : P 3) (h4 : P 4) (h5 : P 5) (h6 : P 6) (h7 : P 7) (h8 : P 8) (h9 : P 9) (h10 : P 10) (h11 : P 11) (h12 : P 12) (h13 : P 13) (h14 : P 14) (h15 : P 15) (h16 : P 16) (h17 : P 17) (h18 : P 18) (h19 : P 19) (h20 : P 20) (h21 : P 21) (h22 : P 22) (h23 : P 23) : ∀ n, n < 24 → P n := by
  intro n hn
  match n, hn with
  | 0, _ => exact h0
  | 1, _ => exact h1
  | 2, _ => exact h2
  | 3, _ => exact h3
  | 4, _ => exact h4
  | 5, _ => exact h5
  | 6, _ => exact h6
  | 7, _ => exact h7
  | 8, _ => exact h8
  | 9, _ => exact h9
  | 10, _ => exact h10
  | 11, _ => exact h11
  | 12, _ => exact h12
  | 13, _ => exact h13
  | 14, _ => exact h14
  | 15, _ => exact h15
  | 16, _ => exact h16
  | 17, _ => exact h17
  | 18, _ => exact h18
  | 19, _ => exact h19
  | 20, _ => exact h20
  | 21, _ => exact h21
  | 22, _ => exact h22
  | 23, _ => exact h23
  | n + 24, h => exact absurd h (by omega)
def prb : Cl := (1, 2, 3)
def f82 (n : Nat) : Fact := ⟨82, [iv (n : Int)], ch n⟩
def f85 (n : Nat) (c : Cl) : Fact := ⟨85, [ch n, .agg (clr c)], .agg (clr (tn n c))⟩
def f126 : Fact := ⟨126, [], .agg (clr prb)⟩
def f125 (n : Nat) : Fact := ⟨125, [.agg (clr prb), .agg (clr (tn n prb))], iv (n : Int)⟩
theorem k82 {n : Nat} (h : n < 24) : KFX (f82 n) := chain82 (R := fun v => v = ch n) n h rfl
theorem k85 {n : Nat} {c : Cl} (hb : Bd 3000 c) (h : n < 24) : KFX (f85 n c) := cell85 (R := fun v => v = .agg (clr (tn n c))) hb n h rfl
theorem k126 : KFX f126 := K0_ranQ (cfg := cfgAll Tryz.prog glX clX (knownI [] [])) hmX (cfgAll_ok (knownI_ok (show Facts Tryz.prog glX [] from trivial))) (fun _ _ => rfl) 3000 Tryz.func126 (by kernel_rfl)
theorem prb_bd : Bd 3000 prb := by unfold Bd Nr prb; decide
def tbT : List Fact := [f82 0, f85 0 prb, f82 1, f85 1 prb, f82 2, f85 2 prb, f82 3, f85 3 prb, f82 4, f85 4 prb, f82 5, f85 5 prb, f82 6, f85 6 prb, f82 7, f85 7 prb, f82 8, f85 8 prb, f82 9, f85 9 prb, f82 10, f85 10 prb, f82 11, f85 11 prb, f82 12, f85 12 prb, f82 13, f85 13 prb, f82 14, f85 14 prb, f82 15, f85 15 prb, f82 16, f85 16 prb, f82 17, f85 17 prb, f82 18, f85 18 prb, f82 19, f85 19 prb, f82 20, f85 20 prb, f82 21, f85 21 prb, f82 22, f85 22 prb, f82 23, f85 23 prb]
theorem tbT_ok : Facts Tryz.prog glX tbT := ⟨k82 (n := 0) (by decide), ⟨k85 (n := 0) prb_bd (by decide), ⟨k82 (n := 1) (by decide), ⟨k85 (n := 1) prb_bd (by decide), ⟨k82 (n := 2) (by decide), ⟨k85 (n := 2) prb_bd (by decide), ⟨k82 (n := 3) (by decide), ⟨k85 (n := 3) prb_bd (by decide), ⟨k82 (n := 4) (by decide), ⟨k85 (n := 4) prb_bd (by decide), ⟨k82 (n := 5) (by decide), ⟨k85 (n := 5) prb_bd (by decide), ⟨k82 (n := 6) (by decide), ⟨k85 (n := 6) prb_bd (by decide), ⟨k82 (n := 7) (by decide), ⟨k85 (n := 7) prb_bd (by decide), ⟨k82 (n := 8) (by decide), ⟨k85 (n := 8) prb_bd (by decide), ⟨k82 (n := 9) (by decide), ⟨k85 (n := 9) prb_bd (by decide), ⟨k82 (n := 10) (by decide), ⟨k85 (n := 10) prb_bd (by decide), ⟨k82 (n := 11) (by decide), ⟨k85 (n := 11) prb_bd (by decide), ⟨k82 (n := 12) (by decide), ⟨k85 (n := 12) prb_bd (by decide), ⟨k82 (n := 13) (by decide), ⟨k85 (n := 13) prb_bd (by decide), ⟨k82 (n := 14) (by decide), ⟨k85 (n := 14) prb_bd (by decide), ⟨k82 (n := 15) (by decide), ⟨k85 (n := 15) prb_bd (by decide), ⟨k82 (n := 16) (by decide), ⟨k85 (n := 16) prb_bd (by decide), ⟨k82 (n := 17) (by decide), ⟨k85 (n := 17) prb_bd (by decide), ⟨k82 (n := 18) (by decide), ⟨k85 (n := 18) prb_bd (by decide), ⟨k82 (n := 19) (by decide), ⟨k85 (n := 19) prb_bd (by decide), ⟨k82 (n := 20) (by decide), ⟨k85 (n := 20) prb_bd (by decide), ⟨k82 (n := 21) (by decide), ⟨k85 (n := 21) prb_bd (by decide), ⟨k82 (n := 22) (by decide), ⟨k85 (n := 22) prb_bd (by decide), ⟨k82 (n := 23) (by decide), ⟨k85 (n := 23) prb_bd (by decide), trivial⟩⟩⟩⟩⟩⟩⟩⟩⟩⟩⟩⟩⟩⟩⟩⟩⟩⟩⟩⟩⟩⟩⟩⟩⟩⟩⟩⟩⟩⟩⟩⟩⟩⟩⟩⟩⟩⟩⟩⟩⟩⟩⟩⟩⟩⟩⟩⟩
theorem k125 : ∀ n, n < 24 → KFX (f125 n) := all24 (P := fun n => KFX (f125 n)) (K0_ranQ (cfg := cfgAll Tryz.prog glX clX (knownI [82, 85] tbT)) hmX (cfgAll_ok (knownI_ok tbT_ok)) (fun _ _ => rfl) 3000 Tryz.func125 (by kernel_rfl)) (K0_ranQ (cfg := cfgAll Tryz.prog glX clX (knownI [82, 85] tbT)) hmX (cfgAll_ok (knownI_ok tbT_ok)) (fun _ _ => rfl) 3000 Tryz.func125 (by kernel_rfl)) (K0_ranQ (cfg := cfgAll Tryz.prog glX clX (knownI [82, 85] tbT)) hmX (cfgAll_ok (knownI_ok tbT_ok)) (fun _ _ => rfl) 3000 Tryz.func125 (by kernel_rfl)) (K0_ranQ (cfg := cfgAll Tryz.prog glX clX (knownI [82, 85] tbT)) hmX (cfgAll_ok (knownI_ok tbT_ok)) (fun _ _ => rfl) 3000 Tryz.func125 (by kernel_rfl)) (K0_ranQ (cfg := cfgAll Tryz.prog glX clX (knownI [82, 85] tbT)) hmX (cfgAll_ok (knownI_ok tbT_ok)) (fun _ _ => rfl) 3000 Tryz.func125 (by kernel_rfl)) (K0_ranQ (cfg := cfgAll Tryz.prog glX clX (knownI [82, 85] tbT)) hmX (cfgAll_ok (knownI_ok tbT_ok)) (fun _ _ => rfl) 3000 Tryz.func125 (by kernel_rfl)) (K0_ranQ (cfg := cfgAll Tryz.prog glX clX (knownI [82, 85] tbT)) hmX (cfgAll_ok (knownI_ok tbT_ok)) (fun _ _ => rfl) 3000 Tryz.func125 (by kernel_rfl)) (K0_ranQ (cfg := cfgAll Tryz.prog glX clX (knownI [82, 85] tbT)) hmX (cfgAll_ok (knownI_ok tbT_ok)) (fun _ _ => rfl) 3000 Tryz.func125 (by kernel_rfl)) (K0_ranQ (cfg := cfgAll Tryz.prog glX clX (knownI [82, 85] tbT)) hmX (cfgAll_ok (knownI_ok tbT_ok)) (fun _ _ => rfl) 3000 Tryz.func125 (by kernel_rfl)) (K0_ranQ (cfg := cfgAll Tryz.prog glX clX (knownI [82, 85] tbT)) hmX (cfgAll_ok (knownI_ok tbT_ok)) (fun _ _ => rfl) 3000 Tryz.func125 (by kernel_rfl)) (K0_ranQ (cfg := cfgAll Tryz.prog glX clX (knownI [82, 85] tbT)) hmX (cfgAll_ok (knownI_ok tbT_ok)) (fun _ _ => rfl) 3000 Tryz.func125 (by kernel_rfl)) (K0_ranQ (cfg := cfgAll Tryz.prog glX clX (knownI [82, 85] tbT)) hmX (cfgAll_ok (knownI_ok tbT_ok)) (fun _ _ => rfl) 3000 Tryz.func125 (by kernel_rfl)) (K0_ranQ (cfg := cfgAll Tryz.prog glX clX (knownI [82, 85] tbT)) hmX (cfgAll_ok (knownI_ok tbT_ok)) (fun _ _ => rfl) 3000 Tryz.func125 (by kernel_rfl)) (K0_ranQ (cfg := cfgAll Tryz.prog glX clX (knownI [82, 85] tbT)) hmX (cfgAll_ok (knownI_ok tbT_ok)) (fun _ _ => rfl) 3000 Tryz.func125 (by kernel_rfl)) (K0_ranQ (cfg := cfgAll Tryz.prog glX clX (knownI [82, 85] tbT)) hmX (cfgAll_ok (knownI_ok tbT_ok)) (fun _ _ => rfl) 3000 Tryz.func125 (by kernel_rfl)) (K0_ranQ (cfg := cfgAll Tryz.prog glX clX (knownI [82, 85] tbT)) hmX (cfgAll_ok (knownI_ok tbT_ok)) (fun _ _ => rfl) 3000 Tryz.func125 (by kernel_rfl)) (K0_ranQ (cfg := cfgAll Tryz.prog glX clX (knownI [82, 85] tbT)) hmX (cfgAll_ok (knownI_ok tbT_ok)) (fun _ _ => rfl) 3000 Tryz.func125 (by kernel_rfl)) (K0_ranQ (cfg := cfgAll Tryz.prog glX clX (knownI [82, 85] tbT)) hmX (cfgAll_ok (knownI_ok tbT_ok)) (fun _ _ => rfl) 3000 Tryz.func125 (by kernel_rfl)) (K0_ranQ (cfg := cfgAll Tryz.prog glX clX (knownI [82, 85] tbT)) hmX (cfgAll_ok (knownI_ok tbT_ok)) (fun _ _ => rfl) 3000 Tryz.func125 (by kernel_rfl)) (K0_ranQ (cfg := cfgAll Tryz.prog glX clX (knownI [82, 85] tbT)) hmX (cfgAll_ok (knownI_ok tbT_ok)) (fun _ _ => rfl) 3000 Tryz.func125 (by kernel_rfl)) (K0_ranQ (cfg := cfgAll Tryz.prog glX clX (knownI [82, 85] tbT)) hmX (cfgAll_ok (knownI_ok tbT_ok)) (fun _ _ => rfl) 3000 Tryz.func125 (by kernel_rfl)) (K0_ranQ (cfg := cfgAll Tryz.prog glX clX (knownI [82, 85] tbT)) hmX (cfgAll_ok (knownI_ok tbT_ok)) (fun _ _ => rfl) 3000 Tryz.func125 (by kernel_rfl)) (K0_ranQ (cfg := cfgAll Tryz.prog glX clX (knownI [82, 85] tbT)) hmX (cfgAll_ok (knownI_ok tbT_ok)) (fun _ _ => rfl) 3000 Tryz.func125 (by kernel_rfl)) (K0_ranQ (cfg := cfgAll Tryz.prog glX clX (knownI [82, 85] tbT)) hmX (cfgAll_ok (knownI_ok tbT_ok)) (fun _ _ => rfl) 3000 Tryz.func125 (by kernel_rfl))
def tbP (a b : Nat) : List Fact := [f126, f82 a, f82 b, f85 a prb, f85 b (tn a prb), ⟨125, [.agg (clr prb), .agg (clr (tn b (tn a prb)))], iv (comp a b : Int)⟩]
theorem comp_prb : ∀ a, a < 24 → ∀ b, b < 24 → comp a b < 24 ∧ tn (comp a b) prb = tn b (tn a prb) := by decide +kernel
theorem tbP_ok {a b : Nat} (ha : a < 24) (hb : b < 24) : Facts Tryz.prog glX (tbP a b) := by
  obtain ⟨h1, h2⟩ := comp_prb a ha b hb
  refine ⟨k126, k82 ha, k82 hb, k85 prb_bd ha, k85 (tn_bd prb_bd) hb, ?_, trivial⟩
  rw [← h2]
  exact k125 _ h1
end Go.Proofs.YtbionhgjgcpogaaGreatDoor
namespace Go.Proofs.YtbionhgjgcpogaaGreatDoor
open Go Go.Proofs.YtbionhgjgcpogaaGreatDoor.Clean
set_option linter.unusedVariables false
set_option linter.unusedSimpArgs false
set_option maxRecDepth 10000
def smC (k : Int) (c : Cl) : Cl := (k * c.1, k * c.2.1, k * c.2.2)
def LinC (f : Cl → Cl) : Prop := (∀ a b, f (addC a b) = addC (f a) (f b)) ∧ ∀ k a, f (smC k a) = smC k (f a)
theorem lin_qz : LinC qz := ⟨fun a b => by simp only [qz, addC]; rw [Int.neg_add], fun k a => by simp only [qz, smC]; rw [Int.mul_neg]⟩
theorem lin_qx : LinC qx := ⟨fun a b => by simp only [qx, addC]; rw [Int.neg_add], fun k a => by simp only [qx, smC]; rw [Int.mul_neg]⟩
theorem LinC.comp {f g : Cl → Cl} (hf : LinC f) (hg : LinC g) : LinC (fun c => g (f c)) := ⟨fun a b => by simp only [hf.1, hg.1], fun k a => by simp only [hf.2, hg.2]⟩
theorem lin_id : LinC (fun c => c) := ⟨fun _ _ => rfl, fun _ _ => rfl⟩
theorem lin_itr {f : Cl → Cl} (hf : LinC f) : ∀ n, LinC (itr f n)
  | 0 => lin_id
  | n + 1 => hf.comp (lin_itr hf n)
theorem lin_tn (n : Nat) : LinC (tn n) := by
  by_cases h : n / 4 < 4
  · have : tn n = fun c => itr qx (n / 4) (itr qz (n % 4) c) := by funext c; unfold tn; rw [if_pos h]
    rw [this]
    exact (lin_itr lin_qz _).comp (lin_itr lin_qx _)
  · have : tn n = fun c => itr qz (if n / 4 = 4 then 1 else 3) (qx (itr qz (n % 4) c)) := by funext c; unfold tn; rw [if_neg h]
    rw [this]
    exact ((lin_itr lin_qz _).comp lin_qx).comp (lin_itr lin_qz _)
theorem lin_ext {f g : Cl → Cl} (hf : LinC f) (hg : LinC g) (h1 : f (1, 0, 0) = g (1, 0, 0)) (h2 : f (0, 1, 0) = g (0, 1, 0)) (h3 : f (0, 0, 1) = g (0, 0, 1)) (c : Cl) : f c = g c := by
  have e : c = addC (smC c.1 (1, 0, 0)) (addC (smC c.2.1 (0, 1, 0)) (smC c.2.2 (0, 0, 1))) := by
    simp [addC, smC]
  rw [e, hf.1, hf.1, hf.2, hf.2, hf.2, hg.1, hg.1, hg.2, hg.2, hg.2, h1, h2, h3]
theorem comp_e : ∀ a, a < 24 → ∀ b, b < 24 → tn (comp a b) (1, 0, 0) = tn b (tn a (1, 0, 0)) ∧ tn (comp a b) (0, 1, 0) = tn b (tn a (0, 1, 0)) ∧ tn (comp a b) (0, 0, 1) = tn b (tn a (0, 0, 1)) := by decide +kernel
theorem tn_comp {a b : Nat} (ha : a < 24) (hb : b < 24) (c : Cl) : tn (comp a b) c = tn b (tn a c) := by
  obtain ⟨h1, h2, h3⟩ := comp_e a ha b hb
  exact lin_ext (lin_tn _) ((lin_tn a).comp (lin_tn b)) h1 h2 h3 c
theorem pt_compN : ∀ a, a < 24 → ∀ b, b < 24 → ∀ d : Nat, d < 6 → pt (comp a b) (d : Int) = pt b (pt a (d : Int)) := by decide +kernel
theorem pt_comp {a b : Nat} (ha : a < 24) (hb : b < 24) {d : Int} (h0 : 0 ≤ d) (h5 : d ≤ 5) : pt (comp a b) d = pt b (pt a d) := by
  obtain ⟨n, rfl⟩ := Int.eq_ofNat_of_zero_le h0
  exact pt_compN a ha b hb n (by omega)
theorem comp_lt {a b : Nat} (ha : a < 24) (hb : b < 24) : comp a b < 24 := (comp_prb a ha b hb).1
def Sy (q : Kd) (t : Nat) : Prop := ∃ d, (q.1.map fun c => addC (tn t c) d).Perm q.1 ∧ (q.2.1.map fun k => ((addC (tn t k.1) d, pt t k.2.1, k.2.2) : Kn)).Perm q.2.1
theorem sy_like {q : Kd} {t : Nat} (hK : KnbP q) (hC : CellsP q.1) (ht : t < 24) : LikeP q t 0 (0, 0, 0) ↔ Sy q t := by
  have e1 := plc_id hC
  have e2 := knb_id hK.put
  have hpos := hC
  constructor
  · rintro ⟨h1, h2⟩
    refine ⟨cAt q t 0 (0, 0, 0), ?_, ?_⟩
    · rw [e1] at h1
      have := (sortC_perm (q.1.map fun c => addC (tn t c) (cAt q t 0 (0, 0, 0)))).symm
      exact this.trans (List.Perm.of_eq h1)
    · have := same_perm (knb_nodup hK ht) h2
      rw [e2] at this
      exact this
  · rintro ⟨d, h1, h2⟩
    have p1 : plc q t d = q.1 := by
      rw [← e1]
      conv => lhs; unfold plc
      refine (sortC_uniq ?_ ?_).symm
      · rw [e1]; exact h1.symm
      · exact sortC_srt _
    have hl : 1 ≤ q.1.length := by
      exact hC.1.1
    have ec : cAt q t 0 (0, 0, 0) = d := by
      unfold cAt
      rw [e1, ← p1, plc_sh, hd_sh (by rw [plc_length]; exact hl)]
      have : ∀ x : Cl, subC (addC x d) x = d := fun x => by simp only [subC, addC]; ext <;> simp <;> omega
      exact this _
    unfold LikeP
    rw [ec]
    refine ⟨by rw [e1]; exact p1, perm_same ?_⟩
    rw [e2]
    exact h2
theorem sy_comp {q : Kd} {a b : Nat} (hK : KnbP q) (ha : a < 24) (hb : b < 24) (h : Sy q a) (g : Sy q b) : Sy q (comp a b) := by
  obtain ⟨d, h1, h2⟩ := h
  obtain ⟨e, g1, g2⟩ := g
  refine ⟨addC (tn b d) e, ?_, ?_⟩
  · have := (h1.map fun c => addC (tn b c) e).trans g1
    rw [List.map_map] at this
    refine (List.Perm.of_eq ?_).trans this
    refine List.map_congr_left fun c _ => ?_
    show addC (tn (comp a b) c) (addC (tn b d) e) = addC (tn b (addC (tn a c) d)) e
    rw [tn_comp ha hb, (lin_tn b).1]
    simp only [addC]
    ext <;> simp <;> omega
  · have := (h2.map fun k => ((addC (tn b k.1) e, pt b k.2.1, k.2.2) : Kn)).trans g2
    rw [List.map_map] at this
    refine (List.Perm.of_eq ?_).trans this
    refine List.map_congr_left fun k hk => ?_
    have hk6 := (hK.put.2.2.1 k hk).2
    show ((addC (tn (comp a b) k.1) (addC (tn b d) e), pt (comp a b) k.2.1, k.2.2) : Kn) = (addC (tn b (addC (tn a k.1) d)) e, pt b (pt a k.2.1), k.2.2)
    rw [tn_comp ha hb, (lin_tn b).1, pt_comp ha hb hk6.1 hk6.2]
    have : addC (tn b (tn a k.1)) (addC (tn b d) e) = addC (addC (tn b (tn a k.1)) (tn b d)) e := by
      simp only [addC]
      ext <;> simp <;> omega
    rw [this]
theorem comp_assoc : ∀ a, a < 24 → ∀ b, b < 24 → ∀ c, c < 24 → comp (comp a b) c = comp a (comp b c) := by decide +kernel
theorem comp_can : ∀ a, a < 24 → ∀ b, b < 24 → ∀ c, c < 24 → comp a c = comp b c → a = b := by decide +kernel
theorem comp_0 : ∀ a, a < 24 → comp 0 a = a := by decide +kernel
def pw (s : Nat) : Nat → Nat
  | 0 => s
  | n + 1 => comp s (pw s n)
theorem pw_inv : ∀ s, s < 24 → comp (pw s 10) s = 0 := by decide +kernel
theorem sub_len : ∀ {a b : List Nat}, a.Nodup → (∀ x ∈ a, x ∈ b) → a.length ≤ b.length
  | [], b, _, _ => Nat.zero_le _
  | x :: a, b, hn, hs => by
    have hx := hs x (by simp)
    have h1 := List.length_erase_of_mem hx
    have h2 := sub_len (a := a) (b := b.erase x) (List.nodup_cons.1 hn).2 fun y hy => (List.mem_erase_of_ne (fun e => (List.nodup_cons.1 hn).1 (by rw [← e]; exact hy))).2 (hs y (List.mem_cons_of_mem _ hy))
    have h3 := List.length_pos_of_mem hx
    simp only [List.length_cons]
    omega
theorem filt_len (p : Nat → Bool) : ∀ l : List Nat, l.length = (l.filter p).length + (l.filter fun x => !p x).length
  | [] => rfl
  | x :: l => by
    have := filt_len p l
    cases h : p x <;> simp [List.filter_cons, h] <;> omega
theorem cosets {S : List Nat} (hS : S.Nodup) (h24 : ∀ s ∈ S, s < 24) (h0 : 0 ∈ S) (hc : ∀ a ∈ S, ∀ b ∈ S, comp a b ∈ S) : ∀ (n : Nat) (X : List Nat), X.length = n → X.Nodup → (∀ x ∈ X, x < 24) → (∀ s ∈ S, ∀ x ∈ X, comp s x ∈ X) → S.length ∣ X.length := by
  intro n
  induction n using Nat.strongRecOn with
  | ind n ih =>
    intro X hn hX hX24 hXc
    cases hXe : X with
    | nil => simp
    | cons g r =>
      rw [← hXe]
      have hg : g ∈ X := by rw [hXe]; simp
      have hg24 := hX24 g hg
      let C := S.map fun s => comp s g
      have hCm : ∀ y, y ∈ C ↔ ∃ s ∈ S, comp s g = y := fun y => List.mem_map
      have hCn : C.Nodup := by
        rw [List.Nodup, List.pairwise_map]
        exact hS.imp_of_mem fun {a b} ha hb hab he => hab (comp_can a (h24 a ha) b (h24 b hb) g hg24 he)
      have hCl : C.length = S.length := List.length_map _
      have hCX : ∀ y ∈ C, y ∈ X := fun y hy => by
        obtain ⟨s, hs, rfl⟩ := (hCm y).1 hy
        exact hXc s hs g hg
      let p : Nat → Bool := fun x => C.contains x
      have hp : ∀ x, p x = true ↔ x ∈ C := fun x => by simp [p]
      have l1 : (X.filter p).length = C.length := Nat.le_antisymm
        (sub_len (hX.filter _) fun x hx => (hp x).1 (List.mem_filter.1 hx).2)
        (sub_len hCn fun x hx => List.mem_filter.2 ⟨hCX x hx, (hp x).2 hx⟩)
      have l2 := filt_len p X
      have hS0 : 0 < S.length := List.length_pos_of_mem h0
      have hm : ∀ x, x ∈ X.filter (fun x => !p x) ↔ x ∈ X ∧ ¬ x ∈ C := fun x => by
        rw [List.mem_filter, ← hp x]; simp
      have hr := ih (X.filter fun x => !p x).length (by omega) (X.filter fun x => !p x) rfl (hX.filter _) (fun x hx => hX24 x ((hm x).1 hx).1) (fun s hs x hx => by
        obtain ⟨x1, x2⟩ := (hm x).1 hx
        refine (hm _).2 ⟨hXc s hs x x1, fun hC => x2 ?_⟩
        obtain ⟨s', hs', e⟩ := (hCm _).1 hC
        have hpw : ∀ n, pw s n ∈ S := fun n => by
          induction n with
          | zero => exact hs
          | succ n ih => exact hc s hs _ ih
        refine (hCm x).2 ⟨comp (pw s 10) s', hc _ (hpw 10) _ hs', ?_⟩
        rw [comp_assoc _ (h24 _ (hpw 10)) _ (h24 _ hs') _ hg24, e, ← comp_assoc _ (h24 _ (hpw 10)) _ (h24 _ hs) _ (hX24 x x1), pw_inv s (h24 s hs), comp_0 _ (hX24 x x1)])
      rw [l2, l1, hCl]
      exact Nat.dvd_add (Nat.dvd_refl _) hr
theorem div24 {S : List Nat} (hS : S.Nodup) (h24 : ∀ s ∈ S, s < 24) (h0 : 0 ∈ S) (hc : ∀ a ∈ S, ∀ b ∈ S, comp a b ∈ S) : S.length ∣ 24 := by
  have := cosets hS h24 h0 hc 24 (List.range 24) (by simp) List.nodup_range (fun x hx => List.mem_range.1 hx) (fun s hs x hx => List.mem_range.2 (comp_lt (h24 s hs) (List.mem_range.1 hx)))
  simpa using this
end Go.Proofs.YtbionhgjgcpogaaGreatDoor
namespace Go.Proofs.YtbionhgjgcpogaaGreatDoor
open Go Go.Proofs.YtbionhgjgcpogaaGreatDoor.Clean
set_option linter.unusedVariables false
set_option linter.unusedSimpArgs false
set_option maxRecDepth 100000
theorem cmpA0 : ∀ b, b < 24 → K0G Tryz.prog glX 46 [iv 0, iv ((b : Nat) : Int)] fun v => v = V.tup [iv (comp 0 b : Int), iv 0] := all24 (P := fun b => K0G Tryz.prog glX 46 [iv 0, iv ((b : Nat) : Int)] fun v => v = V.tup [iv (comp 0 b : Int), iv 0]) (K0_ranQ (cfg := cfgAll Tryz.prog glX clX (knownI [82, 85, 125, 126] (tbP 0 0))) hmX (cfgAll_ok (knownI_ok (tbP_ok (by decide) (by decide)))) (fun _ _ => rfl) 3000 Tryz.func46 (by kernel_rfl)) (K0_ranQ (cfg := cfgAll Tryz.prog glX clX (knownI [82, 85, 125, 126] (tbP 0 1))) hmX (cfgAll_ok (knownI_ok (tbP_ok (by decide) (by decide)))) (fun _ _ => rfl) 3000 Tryz.func46 (by kernel_rfl)) (K0_ranQ (cfg := cfgAll Tryz.prog glX clX (knownI [82, 85, 125, 126] (tbP 0 2))) hmX (cfgAll_ok (knownI_ok (tbP_ok (by decide) (by decide)))) (fun _ _ => rfl) 3000 Tryz.func46 (by kernel_rfl)) (K0_ranQ (cfg := cfgAll Tryz.prog glX clX (knownI [82, 85, 125, 126] (tbP 0 3))) hmX (cfgAll_ok (knownI_ok (tbP_ok (by decide) (by decide)))) (fun _ _ => rfl) 3000 Tryz.func46 (by kernel_rfl)) (K0_ranQ (cfg := cfgAll Tryz.prog glX clX (knownI [82, 85, 125, 126] (tbP 0 4))) hmX (cfgAll_ok (knownI_ok (tbP_ok (by decide) (by decide)))) (fun _ _ => rfl) 3000 Tryz.func46 (by kernel_rfl)) (K0_ranQ (cfg := cfgAll Tryz.prog glX clX (knownI [82, 85, 125, 126] (tbP 0 5))) hmX (cfgAll_ok (knownI_ok (tbP_ok (by decide) (by decide)))) (fun _ _ => rfl) 3000 Tryz.func46 (by kernel_rfl)) (K0_ranQ (cfg := cfgAll Tryz.prog glX clX (knownI [82, 85, 125, 126] (tbP 0 6))) hmX (cfgAll_ok (knownI_ok (tbP_ok (by decide) (by decide)))) (fun _ _ => rfl) 3000 Tryz.func46 (by kernel_rfl)) (K0_ranQ (cfg := cfgAll Tryz.prog glX clX (knownI [82, 85, 125, 126] (tbP 0 7))) hmX (cfgAll_ok (knownI_ok (tbP_ok (by decide) (by decide)))) (fun _ _ => rfl) 3000 Tryz.func46 (by kernel_rfl)) (K0_ranQ (cfg := cfgAll Tryz.prog glX clX (knownI [82, 85, 125, 126] (tbP 0 8))) hmX (cfgAll_ok (knownI_ok (tbP_ok (by decide) (by decide)))) (fun _ _ => rfl) 3000 Tryz.func46 (by kernel_rfl)) (K0_ranQ (cfg := cfgAll Tryz.prog glX clX (knownI [82, 85, 125, 126] (tbP 0 9))) hmX (cfgAll_ok (knownI_ok (tbP_ok (by decide) (by decide)))) (fun _ _ => rfl) 3000 Tryz.func46 (by kernel_rfl)) (K0_ranQ (cfg := cfgAll Tryz.prog glX clX (knownI [82, 85, 125, 126] (tbP 0 10))) hmX (cfgAll_ok (knownI_ok (tbP_ok (by decide) (by decide)))) (fun _ _ => rfl) 3000 Tryz.func46 (by kernel_rfl)) (K0_ranQ (cfg := cfgAll Tryz.prog glX clX (knownI [82, 85, 125, 126] (tbP 0 11))) hmX (cfgAll_ok (knownI_ok (tbP_ok (by decide) (by decide)))) (fun _ _ => rfl) 3000 Tryz.func46 (by kernel_rfl)) (K0_ranQ (cfg := cfgAll Tryz.prog glX clX (knownI [82, 85, 125, 126] (tbP 0 12))) hmX (cfgAll_ok (knownI_ok (tbP_ok (by decide) (by decide)))) (fun _ _ => rfl) 3000 Tryz.func46 (by kernel_rfl)) (K0_ranQ (cfg := cfgAll Tryz.prog glX clX (knownI [82, 85, 125, 126] (tbP 0 13))) hmX (cfgAll_ok (knownI_ok (tbP_ok (by decide) (by decide)))) (fun _ _ => rfl) 3000 Tryz.func46 (by kernel_rfl)) (K0_ranQ (cfg := cfgAll Tryz.prog glX clX (knownI [82, 85, 125, 126] (tbP 0 14))) hmX (cfgAll_ok (knownI_ok (tbP_ok (by decide) (by decide)))) (fun _ _ => rfl) 3000 Tryz.func46 (by kernel_rfl)) (K0_ranQ (cfg := cfgAll Tryz.prog glX clX (knownI [82, 85, 125, 126] (tbP 0 15))) hmX (cfgAll_ok (knownI_ok (tbP_ok (by decide) (by decide)))) (fun _ _ => rfl) 3000 Tryz.func46 (by kernel_rfl)) (K0_ranQ (cfg := cfgAll Tryz.prog glX clX (knownI [82, 85, 125, 126] (tbP 0 16))) hmX (cfgAll_ok (knownI_ok (tbP_ok (by decide) (by decide)))) (fun _ _ => rfl) 3000 Tryz.func46 (by kernel_rfl)) (K0_ranQ (cfg := cfgAll Tryz.prog glX clX (knownI [82, 85, 125, 126] (tbP 0 17))) hmX (cfgAll_ok (knownI_ok (tbP_ok (by decide) (by decide)))) (fun _ _ => rfl) 3000 Tryz.func46 (by kernel_rfl)) (K0_ranQ (cfg := cfgAll Tryz.prog glX clX (knownI [82, 85, 125, 126] (tbP 0 18))) hmX (cfgAll_ok (knownI_ok (tbP_ok (by decide) (by decide)))) (fun _ _ => rfl) 3000 Tryz.func46 (by kernel_rfl)) (K0_ranQ (cfg := cfgAll Tryz.prog glX clX (knownI [82, 85, 125, 126] (tbP 0 19))) hmX (cfgAll_ok (knownI_ok (tbP_ok (by decide) (by decide)))) (fun _ _ => rfl) 3000 Tryz.func46 (by kernel_rfl)) (K0_ranQ (cfg := cfgAll Tryz.prog glX clX (knownI [82, 85, 125, 126] (tbP 0 20))) hmX (cfgAll_ok (knownI_ok (tbP_ok (by decide) (by decide)))) (fun _ _ => rfl) 3000 Tryz.func46 (by kernel_rfl)) (K0_ranQ (cfg := cfgAll Tryz.prog glX clX (knownI [82, 85, 125, 126] (tbP 0 21))) hmX (cfgAll_ok (knownI_ok (tbP_ok (by decide) (by decide)))) (fun _ _ => rfl) 3000 Tryz.func46 (by kernel_rfl)) (K0_ranQ (cfg := cfgAll Tryz.prog glX clX (knownI [82, 85, 125, 126] (tbP 0 22))) hmX (cfgAll_ok (knownI_ok (tbP_ok (by decide) (by decide)))) (fun _ _ => rfl) 3000 Tryz.func46 (by kernel_rfl)) (K0_ranQ (cfg := cfgAll Tryz.prog glX clX (knownI [82, 85, 125, 126] (tbP 0 23))) hmX (cfgAll_ok (knownI_ok (tbP_ok (by decide) (by decide)))) (fun _ _ => rfl) 3000 Tryz.func46 (by kernel_rfl))
theorem cmpA1 : ∀ b, b < 24 → K0G Tryz.prog glX 46 [iv 1, iv ((b : Nat) : Int)] fun v => v = V.tup [iv (comp 1 b : Int), iv 0] := all24 (P := fun b => K0G Tryz.prog glX 46 [iv 1, iv ((b : Nat) : Int)] fun v => v = V.tup [iv (comp 1 b : Int), iv 0]) (K0_ranQ (cfg := cfgAll Tryz.prog glX clX (knownI [82, 85, 125, 126] (tbP 1 0))) hmX (cfgAll_ok (knownI_ok (tbP_ok (by decide) (by decide)))) (fun _ _ => rfl) 3000 Tryz.func46 (by kernel_rfl)) (K0_ranQ (cfg := cfgAll Tryz.prog glX clX (knownI [82, 85, 125, 126] (tbP 1 1))) hmX (cfgAll_ok (knownI_ok (tbP_ok (by decide) (by decide)))) (fun _ _ => rfl) 3000 Tryz.func46 (by kernel_rfl)) (K0_ranQ (cfg := cfgAll Tryz.prog glX clX (knownI [82, 85, 125, 126] (tbP 1 2))) hmX (cfgAll_ok (knownI_ok (tbP_ok (by decide) (by decide)))) (fun _ _ => rfl) 3000 Tryz.func46 (by kernel_rfl)) (K0_ranQ (cfg := cfgAll Tryz.prog glX clX (knownI [82, 85, 125, 126] (tbP 1 3))) hmX (cfgAll_ok (knownI_ok (tbP_ok (by decide) (by decide)))) (fun _ _ => rfl) 3000 Tryz.func46 (by kernel_rfl)) (K0_ranQ (cfg := cfgAll Tryz.prog glX clX (knownI [82, 85, 125, 126] (tbP 1 4))) hmX (cfgAll_ok (knownI_ok (tbP_ok (by decide) (by decide)))) (fun _ _ => rfl) 3000 Tryz.func46 (by kernel_rfl)) (K0_ranQ (cfg := cfgAll Tryz.prog glX clX (knownI [82, 85, 125, 126] (tbP 1 5))) hmX (cfgAll_ok (knownI_ok (tbP_ok (by decide) (by decide)))) (fun _ _ => rfl) 3000 Tryz.func46 (by kernel_rfl)) (K0_ranQ (cfg := cfgAll Tryz.prog glX clX (knownI [82, 85, 125, 126] (tbP 1 6))) hmX (cfgAll_ok (knownI_ok (tbP_ok (by decide) (by decide)))) (fun _ _ => rfl) 3000 Tryz.func46 (by kernel_rfl)) (K0_ranQ (cfg := cfgAll Tryz.prog glX clX (knownI [82, 85, 125, 126] (tbP 1 7))) hmX (cfgAll_ok (knownI_ok (tbP_ok (by decide) (by decide)))) (fun _ _ => rfl) 3000 Tryz.func46 (by kernel_rfl)) (K0_ranQ (cfg := cfgAll Tryz.prog glX clX (knownI [82, 85, 125, 126] (tbP 1 8))) hmX (cfgAll_ok (knownI_ok (tbP_ok (by decide) (by decide)))) (fun _ _ => rfl) 3000 Tryz.func46 (by kernel_rfl)) (K0_ranQ (cfg := cfgAll Tryz.prog glX clX (knownI [82, 85, 125, 126] (tbP 1 9))) hmX (cfgAll_ok (knownI_ok (tbP_ok (by decide) (by decide)))) (fun _ _ => rfl) 3000 Tryz.func46 (by kernel_rfl)) (K0_ranQ (cfg := cfgAll Tryz.prog glX clX (knownI [82, 85, 125, 126] (tbP 1 10))) hmX (cfgAll_ok (knownI_ok (tbP_ok (by decide) (by decide)))) (fun _ _ => rfl) 3000 Tryz.func46 (by kernel_rfl)) (K0_ranQ (cfg := cfgAll Tryz.prog glX clX (knownI [82, 85, 125, 126] (tbP 1 11))) hmX (cfgAll_ok (knownI_ok (tbP_ok (by decide) (by decide)))) (fun _ _ => rfl) 3000 Tryz.func46 (by kernel_rfl)) (K0_ranQ (cfg := cfgAll Tryz.prog glX clX (knownI [82, 85, 125, 126] (tbP 1 12))) hmX (cfgAll_ok (knownI_ok (tbP_ok (by decide) (by decide)))) (fun _ _ => rfl) 3000 Tryz.func46 (by kernel_rfl)) (K0_ranQ (cfg := cfgAll Tryz.prog glX clX (knownI [82, 85, 125, 126] (tbP 1 13))) hmX (cfgAll_ok (knownI_ok (tbP_ok (by decide) (by decide)))) (fun _ _ => rfl) 3000 Tryz.func46 (by kernel_rfl)) (K0_ranQ (cfg := cfgAll Tryz.prog glX clX (knownI [82, 85, 125, 126] (tbP 1 14))) hmX (cfgAll_ok (knownI_ok (tbP_ok (by decide) (by decide)))) (fun _ _ => rfl) 3000 Tryz.func46 (by kernel_rfl)) (K0_ranQ (cfg := cfgAll Tryz.prog glX clX (knownI [82, 85, 125, 126] (tbP 1 15))) hmX (cfgAll_ok (knownI_ok (tbP_ok (by decide) (by decide)))) (fun _ _ => rfl) 3000 Tryz.func46 (by kernel_rfl)) (K0_ranQ (cfg := cfgAll Tryz.prog glX clX (knownI [82, 85, 125, 126] (tbP 1 16))) hmX (cfgAll_ok (knownI_ok (tbP_ok (by decide) (by decide)))) (fun _ _ => rfl) 3000 Tryz.func46 (by kernel_rfl)) (K0_ranQ (cfg := cfgAll Tryz.prog glX clX (knownI [82, 85, 125, 126] (tbP 1 17))) hmX (cfgAll_ok (knownI_ok (tbP_ok (by decide) (by decide)))) (fun _ _ => rfl) 3000 Tryz.func46 (by kernel_rfl)) (K0_ranQ (cfg := cfgAll Tryz.prog glX clX (knownI [82, 85, 125, 126] (tbP 1 18))) hmX (cfgAll_ok (knownI_ok (tbP_ok (by decide) (by decide)))) (fun _ _ => rfl) 3000 Tryz.func46 (by kernel_rfl)) (K0_ranQ (cfg := cfgAll Tryz.prog glX clX (knownI [82, 85, 125, 126] (tbP 1 19))) hmX (cfgAll_ok (knownI_ok (tbP_ok (by decide) (by decide)))) (fun _ _ => rfl) 3000 Tryz.func46 (by kernel_rfl)) (K0_ranQ (cfg := cfgAll Tryz.prog glX clX (knownI [82, 85, 125, 126] (tbP 1 20))) hmX (cfgAll_ok (knownI_ok (tbP_ok (by decide) (by decide)))) (fun _ _ => rfl) 3000 Tryz.func46 (by kernel_rfl)) (K0_ranQ (cfg := cfgAll Tryz.prog glX clX (knownI [82, 85, 125, 126] (tbP 1 21))) hmX (cfgAll_ok (knownI_ok (tbP_ok (by decide) (by decide)))) (fun _ _ => rfl) 3000 Tryz.func46 (by kernel_rfl)) (K0_ranQ (cfg := cfgAll Tryz.prog glX clX (knownI [82, 85, 125, 126] (tbP 1 22))) hmX (cfgAll_ok (knownI_ok (tbP_ok (by decide) (by decide)))) (fun _ _ => rfl) 3000 Tryz.func46 (by kernel_rfl)) (K0_ranQ (cfg := cfgAll Tryz.prog glX clX (knownI [82, 85, 125, 126] (tbP 1 23))) hmX (cfgAll_ok (knownI_ok (tbP_ok (by decide) (by decide)))) (fun _ _ => rfl) 3000 Tryz.func46 (by kernel_rfl))
theorem cmpA2 : ∀ b, b < 24 → K0G Tryz.prog glX 46 [iv 2, iv ((b : Nat) : Int)] fun v => v = V.tup [iv (comp 2 b : Int), iv 0] := all24 (P := fun b => K0G Tryz.prog glX 46 [iv 2, iv ((b : Nat) : Int)] fun v => v = V.tup [iv (comp 2 b : Int), iv 0]) (K0_ranQ (cfg := cfgAll Tryz.prog glX clX (knownI [82, 85, 125, 126] (tbP 2 0))) hmX (cfgAll_ok (knownI_ok (tbP_ok (by decide) (by decide)))) (fun _ _ => rfl) 3000 Tryz.func46 (by kernel_rfl)) (K0_ranQ (cfg := cfgAll Tryz.prog glX clX (knownI [82, 85, 125, 126] (tbP 2 1))) hmX (cfgAll_ok (knownI_ok (tbP_ok (by decide) (by decide)))) (fun _ _ => rfl) 3000 Tryz.func46 (by kernel_rfl)) (K0_ranQ (cfg := cfgAll Tryz.prog glX clX (knownI [82, 85, 125, 126] (tbP 2 2))) hmX (cfgAll_ok (knownI_ok (tbP_ok (by decide) (by decide)))) (fun _ _ => rfl) 3000 Tryz.func46 (by kernel_rfl)) (K0_ranQ (cfg := cfgAll Tryz.prog glX clX (knownI [82, 85, 125, 126] (tbP 2 3))) hmX (cfgAll_ok (knownI_ok (tbP_ok (by decide) (by decide)))) (fun _ _ => rfl) 3000 Tryz.func46 (by kernel_rfl)) (K0_ranQ (cfg := cfgAll Tryz.prog glX clX (knownI [82, 85, 125, 126] (tbP 2 4))) hmX (cfgAll_ok (knownI_ok (tbP_ok (by decide) (by decide)))) (fun _ _ => rfl) 3000 Tryz.func46 (by kernel_rfl)) (K0_ranQ (cfg := cfgAll Tryz.prog glX clX (knownI [82, 85, 125, 126] (tbP 2 5))) hmX (cfgAll_ok (knownI_ok (tbP_ok (by decide) (by decide)))) (fun _ _ => rfl) 3000 Tryz.func46 (by kernel_rfl)) (K0_ranQ (cfg := cfgAll Tryz.prog glX clX (knownI [82, 85, 125, 126] (tbP 2 6))) hmX (cfgAll_ok (knownI_ok (tbP_ok (by decide) (by decide)))) (fun _ _ => rfl) 3000 Tryz.func46 (by kernel_rfl)) (K0_ranQ (cfg := cfgAll Tryz.prog glX clX (knownI [82, 85, 125, 126] (tbP 2 7))) hmX (cfgAll_ok (knownI_ok (tbP_ok (by decide) (by decide)))) (fun _ _ => rfl) 3000 Tryz.func46 (by kernel_rfl)) (K0_ranQ (cfg := cfgAll Tryz.prog glX clX (knownI [82, 85, 125, 126] (tbP 2 8))) hmX (cfgAll_ok (knownI_ok (tbP_ok (by decide) (by decide)))) (fun _ _ => rfl) 3000 Tryz.func46 (by kernel_rfl)) (K0_ranQ (cfg := cfgAll Tryz.prog glX clX (knownI [82, 85, 125, 126] (tbP 2 9))) hmX (cfgAll_ok (knownI_ok (tbP_ok (by decide) (by decide)))) (fun _ _ => rfl) 3000 Tryz.func46 (by kernel_rfl)) (K0_ranQ (cfg := cfgAll Tryz.prog glX clX (knownI [82, 85, 125, 126] (tbP 2 10))) hmX (cfgAll_ok (knownI_ok (tbP_ok (by decide) (by decide)))) (fun _ _ => rfl) 3000 Tryz.func46 (by kernel_rfl)) (K0_ranQ (cfg := cfgAll Tryz.prog glX clX (knownI [82, 85, 125, 126] (tbP 2 11))) hmX (cfgAll_ok (knownI_ok (tbP_ok (by decide) (by decide)))) (fun _ _ => rfl) 3000 Tryz.func46 (by kernel_rfl)) (K0_ranQ (cfg := cfgAll Tryz.prog glX clX (knownI [82, 85, 125, 126] (tbP 2 12))) hmX (cfgAll_ok (knownI_ok (tbP_ok (by decide) (by decide)))) (fun _ _ => rfl) 3000 Tryz.func46 (by kernel_rfl)) (K0_ranQ (cfg := cfgAll Tryz.prog glX clX (knownI [82, 85, 125, 126] (tbP 2 13))) hmX (cfgAll_ok (knownI_ok (tbP_ok (by decide) (by decide)))) (fun _ _ => rfl) 3000 Tryz.func46 (by kernel_rfl)) (K0_ranQ (cfg := cfgAll Tryz.prog glX clX (knownI [82, 85, 125, 126] (tbP 2 14))) hmX (cfgAll_ok (knownI_ok (tbP_ok (by decide) (by decide)))) (fun _ _ => rfl) 3000 Tryz.func46 (by kernel_rfl)) (K0_ranQ (cfg := cfgAll Tryz.prog glX clX (knownI [82, 85, 125, 126] (tbP 2 15))) hmX (cfgAll_ok (knownI_ok (tbP_ok (by decide) (by decide)))) (fun _ _ => rfl) 3000 Tryz.func46 (by kernel_rfl)) (K0_ranQ (cfg := cfgAll Tryz.prog glX clX (knownI [82, 85, 125, 126] (tbP 2 16))) hmX (cfgAll_ok (knownI_ok (tbP_ok (by decide) (by decide)))) (fun _ _ => rfl) 3000 Tryz.func46 (by kernel_rfl)) (K0_ranQ (cfg := cfgAll Tryz.prog glX clX (knownI [82, 85, 125, 126] (tbP 2 17))) hmX (cfgAll_ok (knownI_ok (tbP_ok (by decide) (by decide)))) (fun _ _ => rfl) 3000 Tryz.func46 (by kernel_rfl)) (K0_ranQ (cfg := cfgAll Tryz.prog glX clX (knownI [82, 85, 125, 126] (tbP 2 18))) hmX (cfgAll_ok (knownI_ok (tbP_ok (by decide) (by decide)))) (fun _ _ => rfl) 3000 Tryz.func46 (by kernel_rfl)) (K0_ranQ (cfg := cfgAll Tryz.prog glX clX (knownI [82, 85, 125, 126] (tbP 2 19))) hmX (cfgAll_ok (knownI_ok (tbP_ok (by decide) (by decide)))) (fun _ _ => rfl) 3000 Tryz.func46 (by kernel_rfl)) (K0_ranQ (cfg := cfgAll Tryz.prog glX clX (knownI [82, 85, 125, 126] (tbP 2 20))) hmX (cfgAll_ok (knownI_ok (tbP_ok (by decide) (by decide)))) (fun _ _ => rfl) 3000 Tryz.func46 (by kernel_rfl)) (K0_ranQ (cfg := cfgAll Tryz.prog glX clX (knownI [82, 85, 125, 126] (tbP 2 21))) hmX (cfgAll_ok (knownI_ok (tbP_ok (by decide) (by decide)))) (fun _ _ => rfl) 3000 Tryz.func46 (by kernel_rfl)) (K0_ranQ (cfg := cfgAll Tryz.prog glX clX (knownI [82, 85, 125, 126] (tbP 2 22))) hmX (cfgAll_ok (knownI_ok (tbP_ok (by decide) (by decide)))) (fun _ _ => rfl) 3000 Tryz.func46 (by kernel_rfl)) (K0_ranQ (cfg := cfgAll Tryz.prog glX clX (knownI [82, 85, 125, 126] (tbP 2 23))) hmX (cfgAll_ok (knownI_ok (tbP_ok (by decide) (by decide)))) (fun _ _ => rfl) 3000 Tryz.func46 (by kernel_rfl))
theorem cmpA3 : ∀ b, b < 24 → K0G Tryz.prog glX 46 [iv 3, iv ((b : Nat) : Int)] fun v => v = V.tup [iv (comp 3 b : Int), iv 0] := all24 (P := fun b => K0G Tryz.prog glX 46 [iv 3, iv ((b : Nat) : Int)] fun v => v = V.tup [iv (comp 3 b : Int), iv 0]) (K0_ranQ (cfg := cfgAll Tryz.prog glX clX (knownI [82, 85, 125, 126] (tbP 3 0))) hmX (cfgAll_ok (knownI_ok (tbP_ok (by decide) (by decide)))) (fun _ _ => rfl) 3000 Tryz.func46 (by kernel_rfl)) (K0_ranQ (cfg := cfgAll Tryz.prog glX clX (knownI [82, 85, 125, 126] (tbP 3 1))) hmX (cfgAll_ok (knownI_ok (tbP_ok (by decide) (by decide)))) (fun _ _ => rfl) 3000 Tryz.func46 (by kernel_rfl)) (K0_ranQ (cfg := cfgAll Tryz.prog glX clX (knownI [82, 85, 125, 126] (tbP 3 2))) hmX (cfgAll_ok (knownI_ok (tbP_ok (by decide) (by decide)))) (fun _ _ => rfl) 3000 Tryz.func46 (by kernel_rfl)) (K0_ranQ (cfg := cfgAll Tryz.prog glX clX (knownI [82, 85, 125, 126] (tbP 3 3))) hmX (cfgAll_ok (knownI_ok (tbP_ok (by decide) (by decide)))) (fun _ _ => rfl) 3000 Tryz.func46 (by kernel_rfl)) (K0_ranQ (cfg := cfgAll Tryz.prog glX clX (knownI [82, 85, 125, 126] (tbP 3 4))) hmX (cfgAll_ok (knownI_ok (tbP_ok (by decide) (by decide)))) (fun _ _ => rfl) 3000 Tryz.func46 (by kernel_rfl)) (K0_ranQ (cfg := cfgAll Tryz.prog glX clX (knownI [82, 85, 125, 126] (tbP 3 5))) hmX (cfgAll_ok (knownI_ok (tbP_ok (by decide) (by decide)))) (fun _ _ => rfl) 3000 Tryz.func46 (by kernel_rfl)) (K0_ranQ (cfg := cfgAll Tryz.prog glX clX (knownI [82, 85, 125, 126] (tbP 3 6))) hmX (cfgAll_ok (knownI_ok (tbP_ok (by decide) (by decide)))) (fun _ _ => rfl) 3000 Tryz.func46 (by kernel_rfl)) (K0_ranQ (cfg := cfgAll Tryz.prog glX clX (knownI [82, 85, 125, 126] (tbP 3 7))) hmX (cfgAll_ok (knownI_ok (tbP_ok (by decide) (by decide)))) (fun _ _ => rfl) 3000 Tryz.func46 (by kernel_rfl)) (K0_ranQ (cfg := cfgAll Tryz.prog glX clX (knownI [82, 85, 125, 126] (tbP 3 8))) hmX (cfgAll_ok (knownI_ok (tbP_ok (by decide) (by decide)))) (fun _ _ => rfl) 3000 Tryz.func46 (by kernel_rfl)) (K0_ranQ (cfg := cfgAll Tryz.prog glX clX (knownI [82, 85, 125, 126] (tbP 3 9))) hmX (cfgAll_ok (knownI_ok (tbP_ok (by decide) (by decide)))) (fun _ _ => rfl) 3000 Tryz.func46 (by kernel_rfl)) (K0_ranQ (cfg := cfgAll Tryz.prog glX clX (knownI [82, 85, 125, 126] (tbP 3 10))) hmX (cfgAll_ok (knownI_ok (tbP_ok (by decide) (by decide)))) (fun _ _ => rfl) 3000 Tryz.func46 (by kernel_rfl)) (K0_ranQ (cfg := cfgAll Tryz.prog glX clX (knownI [82, 85, 125, 126] (tbP 3 11))) hmX (cfgAll_ok (knownI_ok (tbP_ok (by decide) (by decide)))) (fun _ _ => rfl) 3000 Tryz.func46 (by kernel_rfl)) (K0_ranQ (cfg := cfgAll Tryz.prog glX clX (knownI [82, 85, 125, 126] (tbP 3 12))) hmX (cfgAll_ok (knownI_ok (tbP_ok (by decide) (by decide)))) (fun _ _ => rfl) 3000 Tryz.func46 (by kernel_rfl)) (K0_ranQ (cfg := cfgAll Tryz.prog glX clX (knownI [82, 85, 125, 126] (tbP 3 13))) hmX (cfgAll_ok (knownI_ok (tbP_ok (by decide) (by decide)))) (fun _ _ => rfl) 3000 Tryz.func46 (by kernel_rfl)) (K0_ranQ (cfg := cfgAll Tryz.prog glX clX (knownI [82, 85, 125, 126] (tbP 3 14))) hmX (cfgAll_ok (knownI_ok (tbP_ok (by decide) (by decide)))) (fun _ _ => rfl) 3000 Tryz.func46 (by kernel_rfl)) (K0_ranQ (cfg := cfgAll Tryz.prog glX clX (knownI [82, 85, 125, 126] (tbP 3 15))) hmX (cfgAll_ok (knownI_ok (tbP_ok (by decide) (by decide)))) (fun _ _ => rfl) 3000 Tryz.func46 (by kernel_rfl)) (K0_ranQ (cfg := cfgAll Tryz.prog glX clX (knownI [82, 85, 125, 126] (tbP 3 16))) hmX (cfgAll_ok (knownI_ok (tbP_ok (by decide) (by decide)))) (fun _ _ => rfl) 3000 Tryz.func46 (by kernel_rfl)) (K0_ranQ (cfg := cfgAll Tryz.prog glX clX (knownI [82, 85, 125, 126] (tbP 3 17))) hmX (cfgAll_ok (knownI_ok (tbP_ok (by decide) (by decide)))) (fun _ _ => rfl) 3000 Tryz.func46 (by kernel_rfl)) (K0_ranQ (cfg := cfgAll Tryz.prog glX clX (knownI [82, 85, 125, 126] (tbP 3 18))) hmX (cfgAll_ok (knownI_ok (tbP_ok (by decide) (by decide)))) (fun _ _ => rfl) 3000 Tryz.func46 (by kernel_rfl)) (K0_ranQ (cfg := cfgAll Tryz.prog glX clX (knownI [82, 85, 125, 126] (tbP 3 19))) hmX (cfgAll_ok (knownI_ok (tbP_ok (by decide) (by decide)))) (fun _ _ => rfl) 3000 Tryz.func46 (by kernel_rfl)) (K0_ranQ (cfg := cfgAll Tryz.prog glX clX (knownI [82, 85, 125, 126] (tbP 3 20))) hmX (cfgAll_ok (knownI_ok (tbP_ok (by decide) (by decide)))) (fun _ _ => rfl) 3000 Tryz.func46 (by kernel_rfl)) (K0_ranQ (cfg := cfgAll Tryz.prog glX clX (knownI [82, 85, 125, 126] (tbP 3 21))) hmX (cfgAll_ok (knownI_ok (tbP_ok (by decide) (by decide)))) (fun _ _ => rfl) 3000 Tryz.func46 (by kernel_rfl)) (K0_ranQ (cfg := cfgAll Tryz.prog glX clX (knownI [82, 85, 125, 126] (tbP 3 22))) hmX (cfgAll_ok (knownI_ok (tbP_ok (by decide) (by decide)))) (fun _ _ => rfl) 3000 Tryz.func46 (by kernel_rfl)) (K0_ranQ (cfg := cfgAll Tryz.prog glX clX (knownI [82, 85, 125, 126] (tbP 3 23))) hmX (cfgAll_ok (knownI_ok (tbP_ok (by decide) (by decide)))) (fun _ _ => rfl) 3000 Tryz.func46 (by kernel_rfl))
theorem cmpA4 : ∀ b, b < 24 → K0G Tryz.prog glX 46 [iv 4, iv ((b : Nat) : Int)] fun v => v = V.tup [iv (comp 4 b : Int), iv 0] := all24 (P := fun b => K0G Tryz.prog glX 46 [iv 4, iv ((b : Nat) : Int)] fun v => v = V.tup [iv (comp 4 b : Int), iv 0]) (K0_ranQ (cfg := cfgAll Tryz.prog glX clX (knownI [82, 85, 125, 126] (tbP 4 0))) hmX (cfgAll_ok (knownI_ok (tbP_ok (by decide) (by decide)))) (fun _ _ => rfl) 3000 Tryz.func46 (by kernel_rfl)) (K0_ranQ (cfg := cfgAll Tryz.prog glX clX (knownI [82, 85, 125, 126] (tbP 4 1))) hmX (cfgAll_ok (knownI_ok (tbP_ok (by decide) (by decide)))) (fun _ _ => rfl) 3000 Tryz.func46 (by kernel_rfl)) (K0_ranQ (cfg := cfgAll Tryz.prog glX clX (knownI [82, 85, 125, 126] (tbP 4 2))) hmX (cfgAll_ok (knownI_ok (tbP_ok (by decide) (by decide)))) (fun _ _ => rfl) 3000 Tryz.func46 (by kernel_rfl)) (K0_ranQ (cfg := cfgAll Tryz.prog glX clX (knownI [82, 85, 125, 126] (tbP 4 3))) hmX (cfgAll_ok (knownI_ok (tbP_ok (by decide) (by decide)))) (fun _ _ => rfl) 3000 Tryz.func46 (by kernel_rfl)) (K0_ranQ (cfg := cfgAll Tryz.prog glX clX (knownI [82, 85, 125, 126] (tbP 4 4))) hmX (cfgAll_ok (knownI_ok (tbP_ok (by decide) (by decide)))) (fun _ _ => rfl) 3000 Tryz.func46 (by kernel_rfl)) (K0_ranQ (cfg := cfgAll Tryz.prog glX clX (knownI [82, 85, 125, 126] (tbP 4 5))) hmX (cfgAll_ok (knownI_ok (tbP_ok (by decide) (by decide)))) (fun _ _ => rfl) 3000 Tryz.func46 (by kernel_rfl)) (K0_ranQ (cfg := cfgAll Tryz.prog glX clX (knownI [82, 85, 125, 126] (tbP 4 6))) hmX (cfgAll_ok (knownI_ok (tbP_ok (by decide) (by decide)))) (fun _ _ => rfl) 3000 Tryz.func46 (by kernel_rfl)) (K0_ranQ (cfg := cfgAll Tryz.prog glX clX (knownI [82, 85, 125, 126] (tbP 4 7))) hmX (cfgAll_ok (knownI_ok (tbP_ok (by decide) (by decide)))) (fun _ _ => rfl) 3000 Tryz.func46 (by kernel_rfl)) (K0_ranQ (cfg := cfgAll Tryz.prog glX clX (knownI [82, 85, 125, 126] (tbP 4 8))) hmX (cfgAll_ok (knownI_ok (tbP_ok (by decide) (by decide)))) (fun _ _ => rfl) 3000 Tryz.func46 (by kernel_rfl)) (K0_ranQ (cfg := cfgAll Tryz.prog glX clX (knownI [82, 85, 125, 126] (tbP 4 9))) hmX (cfgAll_ok (knownI_ok (tbP_ok (by decide) (by decide)))) (fun _ _ => rfl) 3000 Tryz.func46 (by kernel_rfl)) (K0_ranQ (cfg := cfgAll Tryz.prog glX clX (knownI [82, 85, 125, 126] (tbP 4 10))) hmX (cfgAll_ok (knownI_ok (tbP_ok (by decide) (by decide)))) (fun _ _ => rfl) 3000 Tryz.func46 (by kernel_rfl)) (K0_ranQ (cfg := cfgAll Tryz.prog glX clX (knownI [82, 85, 125, 126] (tbP 4 11))) hmX (cfgAll_ok (knownI_ok (tbP_ok (by decide) (by decide)))) (fun _ _ => rfl) 3000 Tryz.func46 (by kernel_rfl)) (K0_ranQ (cfg := cfgAll Tryz.prog glX clX (knownI [82, 85, 125, 126] (tbP 4 12))) hmX (cfgAll_ok (knownI_ok (tbP_ok (by decide) (by decide)))) (fun _ _ => rfl) 3000 Tryz.func46 (by kernel_rfl)) (K0_ranQ (cfg := cfgAll Tryz.prog glX clX (knownI [82, 85, 125, 126] (tbP 4 13))) hmX (cfgAll_ok (knownI_ok (tbP_ok (by decide) (by decide)))) (fun _ _ => rfl) 3000 Tryz.func46 (by kernel_rfl)) (K0_ranQ (cfg := cfgAll Tryz.prog glX clX (knownI [82, 85, 125, 126] (tbP 4 14))) hmX (cfgAll_ok (knownI_ok (tbP_ok (by decide) (by decide)))) (fun _ _ => rfl) 3000 Tryz.func46 (by kernel_rfl)) (K0_ranQ (cfg := cfgAll Tryz.prog glX clX (knownI [82, 85, 125, 126] (tbP 4 15))) hmX (cfgAll_ok (knownI_ok (tbP_ok (by decide) (by decide)))) (fun _ _ => rfl) 3000 Tryz.func46 (by kernel_rfl)) (K0_ranQ (cfg := cfgAll Tryz.prog glX clX (knownI [82, 85, 125, 126] (tbP 4 16))) hmX (cfgAll_ok (knownI_ok (tbP_ok (by decide) (by decide)))) (fun _ _ => rfl) 3000 Tryz.func46 (by kernel_rfl)) (K0_ranQ (cfg := cfgAll Tryz.prog glX clX (knownI [82, 85, 125, 126] (tbP 4 17))) hmX (cfgAll_ok (knownI_ok (tbP_ok (by decide) (by decide)))) (fun _ _ => rfl) 3000 Tryz.func46 (by kernel_rfl)) (K0_ranQ (cfg := cfgAll Tryz.prog glX clX (knownI [82, 85, 125, 126] (tbP 4 18))) hmX (cfgAll_ok (knownI_ok (tbP_ok (by decide) (by decide)))) (fun _ _ => rfl) 3000 Tryz.func46 (by kernel_rfl)) (K0_ranQ (cfg := cfgAll Tryz.prog glX clX (knownI [82, 85, 125, 126] (tbP 4 19))) hmX (cfgAll_ok (knownI_ok (tbP_ok (by decide) (by decide)))) (fun _ _ => rfl) 3000 Tryz.func46 (by kernel_rfl)) (K0_ranQ (cfg := cfgAll Tryz.prog glX clX (knownI [82, 85, 125, 126] (tbP 4 20))) hmX (cfgAll_ok (knownI_ok (tbP_ok (by decide) (by decide)))) (fun _ _ => rfl) 3000 Tryz.func46 (by kernel_rfl)) (K0_ranQ (cfg := cfgAll Tryz.prog glX clX (knownI [82, 85, 125, 126] (tbP 4 21))) hmX (cfgAll_ok (knownI_ok (tbP_ok (by decide) (by decide)))) (fun _ _ => rfl) 3000 Tryz.func46 (by kernel_rfl)) (K0_ranQ (cfg := cfgAll Tryz.prog glX clX (knownI [82, 85, 125, 126] (tbP 4 22))) hmX (cfgAll_ok (knownI_ok (tbP_ok (by decide) (by decide)))) (fun _ _ => rfl) 3000 Tryz.func46 (by kernel_rfl)) (K0_ranQ (cfg := cfgAll Tryz.prog glX clX (knownI [82, 85, 125, 126] (tbP 4 23))) hmX (cfgAll_ok (knownI_ok (tbP_ok (by decide) (by decide)))) (fun _ _ => rfl) 3000 Tryz.func46 (by kernel_rfl))
theorem cmpA5 : ∀ b, b < 24 → K0G Tryz.prog glX 46 [iv 5, iv ((b : Nat) : Int)] fun v => v = V.tup [iv (comp 5 b : Int), iv 0] := all24 (P := fun b => K0G Tryz.prog glX 46 [iv 5, iv ((b : Nat) : Int)] fun v => v = V.tup [iv (comp 5 b : Int), iv 0]) (K0_ranQ (cfg := cfgAll Tryz.prog glX clX (knownI [82, 85, 125, 126] (tbP 5 0))) hmX (cfgAll_ok (knownI_ok (tbP_ok (by decide) (by decide)))) (fun _ _ => rfl) 3000 Tryz.func46 (by kernel_rfl)) (K0_ranQ (cfg := cfgAll Tryz.prog glX clX (knownI [82, 85, 125, 126] (tbP 5 1))) hmX (cfgAll_ok (knownI_ok (tbP_ok (by decide) (by decide)))) (fun _ _ => rfl) 3000 Tryz.func46 (by kernel_rfl)) (K0_ranQ (cfg := cfgAll Tryz.prog glX clX (knownI [82, 85, 125, 126] (tbP 5 2))) hmX (cfgAll_ok (knownI_ok (tbP_ok (by decide) (by decide)))) (fun _ _ => rfl) 3000 Tryz.func46 (by kernel_rfl)) (K0_ranQ (cfg := cfgAll Tryz.prog glX clX (knownI [82, 85, 125, 126] (tbP 5 3))) hmX (cfgAll_ok (knownI_ok (tbP_ok (by decide) (by decide)))) (fun _ _ => rfl) 3000 Tryz.func46 (by kernel_rfl)) (K0_ranQ (cfg := cfgAll Tryz.prog glX clX (knownI [82, 85, 125, 126] (tbP 5 4))) hmX (cfgAll_ok (knownI_ok (tbP_ok (by decide) (by decide)))) (fun _ _ => rfl) 3000 Tryz.func46 (by kernel_rfl)) (K0_ranQ (cfg := cfgAll Tryz.prog glX clX (knownI [82, 85, 125, 126] (tbP 5 5))) hmX (cfgAll_ok (knownI_ok (tbP_ok (by decide) (by decide)))) (fun _ _ => rfl) 3000 Tryz.func46 (by kernel_rfl)) (K0_ranQ (cfg := cfgAll Tryz.prog glX clX (knownI [82, 85, 125, 126] (tbP 5 6))) hmX (cfgAll_ok (knownI_ok (tbP_ok (by decide) (by decide)))) (fun _ _ => rfl) 3000 Tryz.func46 (by kernel_rfl)) (K0_ranQ (cfg := cfgAll Tryz.prog glX clX (knownI [82, 85, 125, 126] (tbP 5 7))) hmX (cfgAll_ok (knownI_ok (tbP_ok (by decide) (by decide)))) (fun _ _ => rfl) 3000 Tryz.func46 (by kernel_rfl)) (K0_ranQ (cfg := cfgAll Tryz.prog glX clX (knownI [82, 85, 125, 126] (tbP 5 8))) hmX (cfgAll_ok (knownI_ok (tbP_ok (by decide) (by decide)))) (fun _ _ => rfl) 3000 Tryz.func46 (by kernel_rfl)) (K0_ranQ (cfg := cfgAll Tryz.prog glX clX (knownI [82, 85, 125, 126] (tbP 5 9))) hmX (cfgAll_ok (knownI_ok (tbP_ok (by decide) (by decide)))) (fun _ _ => rfl) 3000 Tryz.func46 (by kernel_rfl)) (K0_ranQ (cfg := cfgAll Tryz.prog glX clX (knownI [82, 85, 125, 126] (tbP 5 10))) hmX (cfgAll_ok (knownI_ok (tbP_ok (by decide) (by decide)))) (fun _ _ => rfl) 3000 Tryz.func46 (by kernel_rfl)) (K0_ranQ (cfg := cfgAll Tryz.prog glX clX (knownI [82, 85, 125, 126] (tbP 5 11))) hmX (cfgAll_ok (knownI_ok (tbP_ok (by decide) (by decide)))) (fun _ _ => rfl) 3000 Tryz.func46 (by kernel_rfl)) (K0_ranQ (cfg := cfgAll Tryz.prog glX clX (knownI [82, 85, 125, 126] (tbP 5 12))) hmX (cfgAll_ok (knownI_ok (tbP_ok (by decide) (by decide)))) (fun _ _ => rfl) 3000 Tryz.func46 (by kernel_rfl)) (K0_ranQ (cfg := cfgAll Tryz.prog glX clX (knownI [82, 85, 125, 126] (tbP 5 13))) hmX (cfgAll_ok (knownI_ok (tbP_ok (by decide) (by decide)))) (fun _ _ => rfl) 3000 Tryz.func46 (by kernel_rfl)) (K0_ranQ (cfg := cfgAll Tryz.prog glX clX (knownI [82, 85, 125, 126] (tbP 5 14))) hmX (cfgAll_ok (knownI_ok (tbP_ok (by decide) (by decide)))) (fun _ _ => rfl) 3000 Tryz.func46 (by kernel_rfl)) (K0_ranQ (cfg := cfgAll Tryz.prog glX clX (knownI [82, 85, 125, 126] (tbP 5 15))) hmX (cfgAll_ok (knownI_ok (tbP_ok (by decide) (by decide)))) (fun _ _ => rfl) 3000 Tryz.func46 (by kernel_rfl)) (K0_ranQ (cfg := cfgAll Tryz.prog glX clX (knownI [82, 85, 125, 126] (tbP 5 16))) hmX (cfgAll_ok (knownI_ok (tbP_ok (by decide) (by decide)))) (fun _ _ => rfl) 3000 Tryz.func46 (by kernel_rfl)) (K0_ranQ (cfg := cfgAll Tryz.prog glX clX (knownI [82, 85, 125, 126] (tbP 5 17))) hmX (cfgAll_ok (knownI_ok (tbP_ok (by decide) (by decide)))) (fun _ _ => rfl) 3000 Tryz.func46 (by kernel_rfl)) (K0_ranQ (cfg := cfgAll Tryz.prog glX clX (knownI [82, 85, 125, 126] (tbP 5 18))) hmX (cfgAll_ok (knownI_ok (tbP_ok (by decide) (by decide)))) (fun _ _ => rfl) 3000 Tryz.func46 (by kernel_rfl)) (K0_ranQ (cfg := cfgAll Tryz.prog glX clX (knownI [82, 85, 125, 126] (tbP 5 19))) hmX (cfgAll_ok (knownI_ok (tbP_ok (by decide) (by decide)))) (fun _ _ => rfl) 3000 Tryz.func46 (by kernel_rfl)) (K0_ranQ (cfg := cfgAll Tryz.prog glX clX (knownI [82, 85, 125, 126] (tbP 5 20))) hmX (cfgAll_ok (knownI_ok (tbP_ok (by decide) (by decide)))) (fun _ _ => rfl) 3000 Tryz.func46 (by kernel_rfl)) (K0_ranQ (cfg := cfgAll Tryz.prog glX clX (knownI [82, 85, 125, 126] (tbP 5 21))) hmX (cfgAll_ok (knownI_ok (tbP_ok (by decide) (by decide)))) (fun _ _ => rfl) 3000 Tryz.func46 (by kernel_rfl)) (K0_ranQ (cfg := cfgAll Tryz.prog glX clX (knownI [82, 85, 125, 126] (tbP 5 22))) hmX (cfgAll_ok (knownI_ok (tbP_ok (by decide) (by decide)))) (fun _ _ => rfl) 3000 Tryz.func46 (by kernel_rfl)) (K0_ranQ (cfg := cfgAll Tryz.prog glX clX (knownI [82, 85, 125, 126] (tbP 5 23))) hmX (cfgAll_ok (knownI_ok (tbP_ok (by decide) (by decide)))) (fun _ _ => rfl) 3000 Tryz.func46 (by kernel_rfl))
end Go.Proofs.YtbionhgjgcpogaaGreatDoor
