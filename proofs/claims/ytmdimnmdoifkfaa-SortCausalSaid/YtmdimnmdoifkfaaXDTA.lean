/- The gate of a kind; which gate a cluster is sorted by; fates. -/
import Derived.Test.YtmdimnmdoifkfaaXDSD
import Derived.Test.YtmdimnmdoifkfaaXDT9R
namespace Go.Proofs.Ytmdimnmdoifkfaa
open Go Go.Proofs.Ytmdimnmdoifkfaa.Clean
set_option linter.unusedVariables false
set_option linter.unusedSimpArgs false
set_option maxRecDepth 10000

theorem hcT : cfT.ok Try.prog := cfgM_ok
theorem hcS : cfS.ok Try.prog := ⟨hcT.c0, hcT.known⟩
theorem ftl_length (l : List Ft) : (ftl l).length = l.length := by simp [ftl]
/-- The gate of a kind. -/
def gateF (b : Bt) (k : Int) : Int := if k = -1 then -1 else lead b (b.bins.getD k.toNat 0)
theorem getK {α : Type} {l : List α} {k : Nat} {d : α} (h : k < l.length) : l[k]? = some (l.getD k d) := by simp [h]
theorem gateOf91 {b : Bt} {k : Int} {R : V → Prop} (hb : BtP b) (hk : Inn (-1) 15 k) (h : R (iv (gateF b k))) : K0G Try.prog glX 91 [.agg (bel b), iv k] R := by
  refine K0_of_WY0 hmX hcT 3000 Try.func91 (see (p := ifB (k == (-1 : Int)) (R (iv (-1 : Int))) (La 2 [(0 : Tmp), (1 : Tmp), (7 : Tmp), (8 : Tmp)] (WY Try.prog cfT 2991 (Env.mk (Bs.mk 2 []) 2 none 19 107 0) (cdAt [1, 0, 1, 0, 0] (bodyOf Try.f107))) (Qblk 0 (Qthen (WY Try.prog cfT 2994 (Env.mk (cfT.baseOf (Bs.mk 0 []) 107 [V.lst 2 (gl b.4), V.fn (Fn.func 108) [] [V.ptr (Id.p 0) 0 0, V.ptr (Id.p 1) 0 0]] (Hp.mk [(1, O.rows 1 false [[iv k]]), (0, O.rows 5 false [[iv b.1, iv b.2, iv b.3, V.lst 2 (gl b.4), V.lst 1 (nl b.5)]])] (1 + 1) [])) 2 none 19 107 0) (cdAt [1, 1] (bodyOf Try.f107)) (QendX Try.prog Try.f107 fun v h' => (fun v h => fzNew (callY Try.prog cfT (WY Try.prog cfT 2996) (Env.mk (Bs.mk 0 []) 0 none Try.f91.ntmps (91 : FuncId) 0).base (Env.mk (Bs.mk 0 []) 0 none Try.f91.ntmps (91 : FuncId) 0).fid) 2 (Oper.mk (some 10) (Op.call (Call.mk (Callee.value (Operand.func 107)) #[Operand.tmp 8, Operand.tmp 9] #[22, 146])) 3 "belt.go:48" #[Edge.mk 1 Ground.data, Edge.mk 2 Ground.data] none) v h fun v h => putT (Env.mk (Bs.mk 0 []) 0 none Try.f91.ntmps (91 : FuncId) 0).N (mkT [(0, V.agg [iv b.1, iv b.2, iv b.3, V.lst 2 (gl b.4), V.lst 1 (nl b.5)]), (1, iv k), (2, V.ptr (Id.p 0) 0 0), (3, V.ptr (Id.p 1) 0 0), (4, iv (0 : Int)), (5, iv k), (6, bv (k == (-1 : Int))), (7, V.ptr (Id.p 0) 0 3), (8, V.lst 2 (gl b.4)), (9, V.fn (Fn.func 108) [] [V.ptr (Id.p 0) 0 0, V.ptr (Id.p 1) 0 0])]) (Oper.mk (some 10) (Op.call (Call.mk (Callee.value (Operand.func 107)) #[Operand.tmp 8, Operand.tmp 9] #[22, 146])) 3 "belt.go:48" #[Edge.mk 1 Ground.data, Edge.mk 2 Ground.data] none).dst v fun tm => (fun st => fzOld (callY Try.prog cfT (WY Try.prog cfT 2996) (Env.mk (Bs.mk 0 []) 0 none Try.f91.ntmps (91 : FuncId) 0).base (Env.mk (Bs.mk 0 []) 0 none Try.f91.ntmps (91 : FuncId) 0).fid) (askY cfT (Env.mk (Bs.mk 0 []) 0 none Try.f91.ntmps (91 : FuncId) 0).base) (Oper.mk (some 10) (Op.call (Call.mk (Callee.value (Operand.func 107)) #[Operand.tmp 8, Operand.tmp 9] #[22, 146])) 3 "belt.go:48" #[Edge.mk 1 Ground.data, Edge.mk 2 Ground.data] none) st fun st => wOps Try.prog (callY Try.prog cfT (WY Try.prog cfT 2996) (Env.mk (Bs.mk 0 []) 0 none Try.f91.ntmps (91 : FuncId) 0).base (Env.mk (Bs.mk 0 []) 0 none Try.f91.ntmps (91 : FuncId) 0).fid) (askY cfT (Env.mk (Bs.mk 0 []) 0 none Try.f91.ntmps (91 : FuncId) 0).base) (Env.mk (Bs.mk 0 []) 0 none Try.f91.ntmps (91 : FuncId) 0).N #[Oper.mk (some 7) (Op.fieldAddr 25 (Operand.tmp 2) 3) 0 "belt.go:48" #[] none, Oper.mk (some 8) (Op.load 22 (Operand.tmp 7)) 22 "belt.go:48" #[Edge.mk 0 Ground.data] none, Oper.mk (some 9) (Op.makeFunc (Fn.func 108) #[] #[Operand.tmp 2, Operand.tmp 3]) 146 "belt.go:48" #[] none, Oper.mk (some 10) (Op.call (Call.mk (Callee.value (Operand.func 107)) #[Operand.tmp 8, Operand.tmp 9] #[22, 146])) 3 "belt.go:48" #[Edge.mk 1 Ground.data, Edge.mk 2 Ground.data] none, Oper.mk (some 4) (Op.assign (Operand.tmp 10)) 3 "belt.go:48" #[Edge.mk 3 Ground.data, Edge.mk 3 Ground.chain, Edge.mk 0 Ground.phase, Edge.mk 1 Ground.phase, Edge.mk 2 Ground.phase, Edge.mk 3 Ground.phase] none].toList [Oper.mk (some 4) (Op.assign (Operand.tmp 10)) 3 "belt.go:48" #[Edge.mk 3 Ground.data, Edge.mk 3 Ground.chain, Edge.mk 0 Ground.phase, Edge.mk 1 Ground.phase, Edge.mk 2 Ground.phase, Edge.mk 3 Ground.phase] none] st (Qthen (WY Try.prog cfT 2997 (Env.mk (Bs.mk 0 []) 0 none 11 91 0) (cdAt [1, 0, 1, 0, 0, 1, 1, 0, 0, 1, 1, 0, 1] (bodyOf Try.f107)) (QendX Try.prog Try.f91 fun v h => R (frzW h v))) (QendX Try.prog Try.f91 fun v h => R (frzW h v)) Ex.norm)) (St.mk tm h)) v (bif cfT.clean 107 then gcH 2 v h' else h'))) (QendX Try.prog Try.f107 fun v h' => (fun v h => fzNew (callY Try.prog cfT (WY Try.prog cfT 2996) (Env.mk (Bs.mk 0 []) 0 none Try.f91.ntmps (91 : FuncId) 0).base (Env.mk (Bs.mk 0 []) 0 none Try.f91.ntmps (91 : FuncId) 0).fid) 2 (Oper.mk (some 10) (Op.call (Call.mk (Callee.value (Operand.func 107)) #[Operand.tmp 8, Operand.tmp 9] #[22, 146])) 3 "belt.go:48" #[Edge.mk 1 Ground.data, Edge.mk 2 Ground.data] none) v h fun v h => putT (Env.mk (Bs.mk 0 []) 0 none Try.f91.ntmps (91 : FuncId) 0).N (mkT [(0, V.agg [iv b.1, iv b.2, iv b.3, V.lst 2 (gl b.4), V.lst 1 (nl b.5)]), (1, iv k), (2, V.ptr (Id.p 0) 0 0), (3, V.ptr (Id.p 1) 0 0), (4, iv (0 : Int)), (5, iv k), (6, bv (k == (-1 : Int))), (7, V.ptr (Id.p 0) 0 3), (8, V.lst 2 (gl b.4)), (9, V.fn (Fn.func 108) [] [V.ptr (Id.p 0) 0 0, V.ptr (Id.p 1) 0 0])]) (Oper.mk (some 10) (Op.call (Call.mk (Callee.value (Operand.func 107)) #[Operand.tmp 8, Operand.tmp 9] #[22, 146])) 3 "belt.go:48" #[Edge.mk 1 Ground.data, Edge.mk 2 Ground.data] none).dst v fun tm => (fun st => fzOld (callY Try.prog cfT (WY Try.prog cfT 2996) (Env.mk (Bs.mk 0 []) 0 none Try.f91.ntmps (91 : FuncId) 0).base (Env.mk (Bs.mk 0 []) 0 none Try.f91.ntmps (91 : FuncId) 0).fid) (askY cfT (Env.mk (Bs.mk 0 []) 0 none Try.f91.ntmps (91 : FuncId) 0).base) (Oper.mk (some 10) (Op.call (Call.mk (Callee.value (Operand.func 107)) #[Operand.tmp 8, Operand.tmp 9] #[22, 146])) 3 "belt.go:48" #[Edge.mk 1 Ground.data, Edge.mk 2 Ground.data] none) st fun st => wOps Try.prog (callY Try.prog cfT (WY Try.prog cfT 2996) (Env.mk (Bs.mk 0 []) 0 none Try.f91.ntmps (91 : FuncId) 0).base (Env.mk (Bs.mk 0 []) 0 none Try.f91.ntmps (91 : FuncId) 0).fid) (askY cfT (Env.mk (Bs.mk 0 []) 0 none Try.f91.ntmps (91 : FuncId) 0).base) (Env.mk (Bs.mk 0 []) 0 none Try.f91.ntmps (91 : FuncId) 0).N #[Oper.mk (some 7) (Op.fieldAddr 25 (Operand.tmp 2) 3) 0 "belt.go:48" #[] none, Oper.mk (some 8) (Op.load 22 (Operand.tmp 7)) 22 "belt.go:48" #[Edge.mk 0 Ground.data] none, Oper.mk (some 9) (Op.makeFunc (Fn.func 108) #[] #[Operand.tmp 2, Operand.tmp 3]) 146 "belt.go:48" #[] none, Oper.mk (some 10) (Op.call (Call.mk (Callee.value (Operand.func 107)) #[Operand.tmp 8, Operand.tmp 9] #[22, 146])) 3 "belt.go:48" #[Edge.mk 1 Ground.data, Edge.mk 2 Ground.data] none, Oper.mk (some 4) (Op.assign (Operand.tmp 10)) 3 "belt.go:48" #[Edge.mk 3 Ground.data, Edge.mk 3 Ground.chain, Edge.mk 0 Ground.phase, Edge.mk 1 Ground.phase, Edge.mk 2 Ground.phase, Edge.mk 3 Ground.phase] none].toList [Oper.mk (some 4) (Op.assign (Operand.tmp 10)) 3 "belt.go:48" #[Edge.mk 3 Ground.data, Edge.mk 3 Ground.chain, Edge.mk 0 Ground.phase, Edge.mk 1 Ground.phase, Edge.mk 2 Ground.phase, Edge.mk 3 Ground.phase] none] st (Qthen (WY Try.prog cfT 2997 (Env.mk (Bs.mk 0 []) 0 none 11 91 0) (cdAt [1, 0, 1, 0, 0, 1, 1, 0, 0, 1, 1, 0, 1] (bodyOf Try.f107)) (QendX Try.prog Try.f91 fun v h => R (frzW h v))) (QendX Try.prog Try.f91 fun v h => R (frzW h v)) Ex.norm)) (St.mk tm h)) v (bif cfT.clean 107 then gcH 2 v h' else h')))) (St.mk (mkT [(0, V.lst 2 (gl b.4)), (1, V.fn (Fn.func 108) [] [V.ptr (Id.p 0) 0 0, V.ptr (Id.p 1) 0 0]), (7, iv (↑(gl b.4).length : Int)), (8, iv (0 : Int))]) (Hp.mk [(1, O.rows 1 false [[iv k]]), (0, O.rows 5 false [[iv b.1, iv b.2, iv b.3, V.lst 2 (gl b.4), V.lst 1 (nl b.5)]])] 2 [])))) (by kernel_rfl) ?_)
  have hbl := hb.2.2.2.2.2.1
  have hgl := hb.2.2.2.1
  refine ifB_mk (fun c => ?_) (fun c => ?_)
  · rw [gateF, if_pos (by simpa using c)] at h; exact h
  have c : k ≠ -1 := by simpa using c
  rw [gateF, if_neg c] at h
  obtain ⟨m, hkm⟩ : ∃ m : Nat, k = m := ⟨k.toNat, by have := hk.1; omega⟩
  have hm : m < b.bins.length := by have := hk.2; omega
  have hmm : k.toNat = m := by omega
  rw [hmm] at h
  refine La.of (σ := Nat) (fun i => sh107 b k i) (fun k => k ≤ b.gs.length ∧ leadF (b.gs.drop k) (b.bins.getD m 0) k = lead b (b.bins.getD m 0)) (fun k => b.gs.length - k) 0 (by kernel_rfl) ⟨by simp, rfl⟩ ?_
  rintro i ⟨g1, g2⟩ J hJ
  refine see (p := ifB (decide ((↑i : Int) < (↑(gl b.4).length : Int))) (onSome (gl b.4)[i]? fun row => onCons (List.drop 0 row) fun u r => onIntK IntKind.i64 u fun n => onCons r fun u r => onIntK IntKind.i64 u fun n => onNat k fun m => onSome (nl b.5)[m]? fun row => onSome row[0]? fun v => onIntK IntKind.i64 v fun n_1 => ifB (n == n_1) (R (iv (↑i : Int))) (J (St.mk (mkT [(0, V.lst 2 (gl b.4)), (1, V.fn (Fn.func (108 : FuncId)) [] [V.ptr (Id.p 0) 0 0, V.ptr (Id.p 1) 0 0]), (7, iv (↑(gl b.4).length : Int)), (8, iv (IntKind.i64.wrap ((↑i : Int) + (1 : Int))))]) (Hp.mk [(1, O.rows 1 false [[iv k]]), (0, O.rows 5 false [[iv b.1, iv b.2, iv b.3, V.lst 2 (gl b.4), V.lst 1 (nl b.5)]])] 2 [])))) (R (iv (-1 : Int)))) (by kernel_rfl) ?_
  refine ifB_mk (fun hb => ?_) (fun hb => ?_)
  · have hlt : i < b.gs.length := by rw [gl_length] at hb; have := of_decide_eq_true hb; omega
    obtain ⟨g, hg⟩ := getI hlt
    rw [List.drop_eq_getElem_cons hlt, (List.getElem?_eq_some_iff.1 hg).2] at g2
    rw [wr1i hlt (by omega)]
    refine gel hg (onNat_mk hkm (iel (getK (d := 0) hm) (ifB_mk (fun c1 => ?_) (fun c1 => ?_))))
    · rw [leadF, if_pos (by simpa using c1)] at g2
      rw [← g2] at h; exact h
    · rw [leadF, if_neg (by simpa using c1)] at g2
      exact hJ (i + 1) ⟨hlt, g2⟩ (by omega)
  · have hk : b.gs.length ≤ i := by rw [gl_length] at hb; have := of_decide_eq_false hb; omega
    rw [List.drop_of_length_le hk] at g2
    rw [← g2] at h
    exact h
theorem lead_neg {b : Bt} (hb : BtP b) {n : Int} (h : n < 0) : lead b n = -1 := by
  rcases leadF_spec b.gs n 0 with ⟨a, _⟩ | ⟨i, g, a, e, _, _⟩
  · exact a
  · have := (hb.2.2.2.2.1.1 g (mem_at a)).2.2.1
    omega
theorem gate92 {b : Bt} {k : Int} {R : V → Prop} (hb : BtP b) (hk : Inn (-1) 15 k) (h : R (iv (gateF b k))) : K0G Try.prog glX 92 [.agg (bel b), iv k] R := by
  refine K0_of_WY0 hmX hcT 3000 Try.func92 (see (p := ifB (decide (k < (0 : Int))) (R (iv (-1 : Int))) (onNat k fun m => onSome (nl b.5)[m]? fun row => onSome row[0]? fun v => onIntK IntKind.i64 v fun n => ifB (decide (n < (0 : Int))) (R (iv (-1 : Int))) (onNat k fun m => onSome (nl b.5)[m]? fun row => onSome row[0]? fun v => onIntK IntKind.i64 v fun n => K0G Try.prog glX 46 [V.agg [iv b.1, iv b.2, iv b.3, V.lst 2 (gl b.4), V.lst 1 (nl b.5)], iv n] fun v => onIntK IntKind.i64 v fun n => R (iv n)))) (by kernel_rfl) ?_)
  have hbl := hb.2.2.2.2.2.1
  have hgl := hb.2.2.2.1
  have hk1 := hk.1
  have hk2 := hk.2
  refine ifB_mk (fun c => ?_) (fun c => ?_)
  · have c := of_decide_eq_true c
    rw [gateF, if_pos (by omega)] at h; exact h
  · have c := of_decide_eq_false c
    rw [gateF, if_neg (by omega)] at h
    obtain ⟨m, rfl⟩ : ∃ m : Nat, k = m := ⟨k.toNat, by omega⟩
    refine onNat_mk rfl (iel (getK (d := 0) (by omega)) (ifB_mk (fun d => ?_) (fun d => ?_)))
    · rw [show ((m : Int).toNat) = m from rfl, lead_neg hb (of_decide_eq_true d)] at h; exact h
    · exact onNat_mk rfl (iel (getK (d := 0) (by omega)) (leads46 (by omega) (onIntK_iv h)))
/-- Where the gate of a number is, and its bin. -/
def gt (b : Bt) (g : Int) : Gt := b.gs.getD g.toNat (0, 0)
theorem lead_rng (b : Bt) (n : Int) : lead b n = -1 ∨ ∃ m : Nat, lead b n = m ∧ m < b.gs.length ∧ (gt b m).2 = n := by
  rcases leadF_spec b.gs n 0 with ⟨a, _⟩ | ⟨i, g, a, e, _, d⟩
  · exact .inl a
  · refine .inr ⟨i, by rw [lead, d]; simp, (List.getElem?_eq_some_iff.1 a).1, ?_⟩
    rw [gt, show ((i : Nat) : Int).toNat = i from rfl]
    simp [a, e]
theorem gate_rng (b : Bt) (k : Int) : gateF b k = -1 ∨ ∃ m : Nat, gateF b k = m ∧ m < b.gs.length ∧ (gt b m).2 = b.bins.getD k.toNat 0 := by
  unfold gateF
  split
  · exact .inl rfl
  · exact lead_rng b _
theorem gt_get {b : Bt} {m : Nat} (h : m < b.gs.length) : b.gs[m]? = some (gt b m) := getK h
def fd (l : List Fd) (i : Nat) : Fd := l.getD i (0, 0, [])
theorem fd_get {l : List Fd} {i : Nat} (h : i < l.length) : l[i]? = some (fd l i) := getK h
def gk (b : Bt) (x : Fd) : Int := gateF b (kindOf x.2.2)
/-- The gate by which a cluster is sorted. -/
def SrP (b : Bt) (c : List Fd) : Prop := gk b (fd c 0) ≠ -1 ∧ (fd c (c.length - 1)).1 - (fd c 0).1 + 3 * b.S + 1 ≤ (gt b (gk b (fd c 0))).1 - b.C ∧ ∀ y ∈ c, gk b y = gk b (fd c 0)
noncomputable def sortF (b : Bt) (c : List Fd) : Int := if dc (SrP b c) = true then gk b (fd c 0) else -1
def mkind (s : Int × Int) : Prop := -1 ≤ s.1 ∧ s.1 ≤ 15
theorem mgo_rng : ∀ (c : List Int) (k : Nat) (s : Int × Int), mkind s → k + c.length ≤ 16 → mkind (mgo c k s)
  | [], _, _, h, _ => h
  | n :: c, k, s, h, hl => by
    simp only [List.length_cons] at hl
    refine mgo_rng c (k + 1) _ ?_ (by omega)
    unfold mstep
    split
    · constructor <;> simp only <;> omega
    · split
      · constructor <;> simp only <;> omega
      · exact h
theorem kind_rng (l : List Int) : Inn (-1) 15 (kindOf l) := mgo_rng (cts l) 0 (-1, 0) ⟨by simp, by simp⟩ (by rw [cts_length]; omega)
theorem sorted59 {b : Bt} {c : List Fd} {R : V → Prop} (hb : BtP b) (hc : c ≠ []) (hl : c.length ≤ 40) (h1 : ∀ x ∈ c, F1 x) (h : R (iv (sortF b c))) : K0G Try.prog glX 59 [.agg (bel b), .lst 3 (fdl c)] R := by
  refine K0_of_WY0 hmX hcT 3000 Try.func59 (see (p := onSome (fdl c)[0]? fun row => onCons (List.drop 0 row) fun u r => onIntK IntKind.i64 u fun n => onCons r fun u r => onIntK IntKind.i64 u fun n_1 => onCons r fun u r => onLst u fun s es => onNat (IntKind.i64.wrap ((↑(fdl c).length : Int) - (1 : Int))) fun m => onSome (fdl c)[m]? fun row => onCons (List.drop 0 row) fun u r => onIntK IntKind.i64 u fun n_2 => onCons r fun u r => onIntK IntKind.i64 u fun n_3 => onCons r fun u r => onLst u fun s_1 es_1 => K0G Try.prog glX 51 [V.lst s es] fun v => onIntK IntKind.i64 v fun n_4 => K0G Try.prog glX 91 [V.agg [iv b.1, iv b.2, iv b.3, V.lst 2 (gl b.4), V.lst 1 (nl b.5)], iv n_4] fun v => onIntK IntKind.i64 v fun n_5 => ifB (n_5 == (-1 : Int)) (R (iv (-1 : Int))) (onNat n_5 fun m => onSome (gl b.4)[m]? fun row => onSome row[0]? fun v => onIntK IntKind.i64 v fun n_6 => ifB (decide (IntKind.i64.wrap (IntKind.i64.wrap (IntKind.i64.wrap (n_2 - n) + IntKind.i64.wrap ((3 : Int) * b.3)) + (1 : Int)) > IntKind.i64.wrap (n_6 - b.2))) (R (iv (-1 : Int))) (La 0 [(2 : Tmp), (7 : Tmp), (44 : Tmp), (45 : Tmp), (46 : Tmp)] (WY Try.prog cfT 2992 (Env.mk (Bs.mk 0 []) 0 none 59 59 0) (cdAt [1, 1, 1, 1, 0, 1, 0, 0] (bodyOf Try.f59))) (Qblk 0 (Qthen (WY Try.prog cfT 2995 (Env.mk (Bs.mk 0 []) 0 none 59 59 0) (cdAt [1, 1, 1, 1, 1] (bodyOf Try.f59)) (QendX Try.prog Try.f59 fun v h => R (frzW h v))) (QendX Try.prog Try.f59 fun v h => R (frzW h v)))) (St.mk (mkT [(2, V.ptr (Id.p 0) 0 0), (7, iv n_5), (44, V.lst 3 (fdl c)), (45, iv (↑(fdl c).length : Int)), (46, iv (0 : Int))]) (Hp.mk [(0, O.rows 5 false [[iv b.1, iv b.2, iv b.3, V.lst 2 (gl b.4), V.lst 1 (nl b.5)]])] 1 []))))) (by kernel_rfl) ?_)
  have hpos : 0 < c.length := List.length_pos_iff.2 hc
  have x0 := fd_get (l := c) (i := 0) hpos
  have x1 := fd_get (l := c) (i := c.length - 1) (by omega)
  have f0 := h1 _ (mem_at x0)
  have f1 := h1 _ (mem_at x1)
  have no : ¬ SrP b c → R (iv (-1)) := fun hn => by rw [sortF, if_neg (by rw [dc_f hn]; simp)] at h; exact h
  refine fel x0 ?_
  rw [fdl_length]
  refine onNat_mk (m := c.length - 1) (by rw [wr (by omega) (by omega)]; omega) (fel x1 ?_)
  have rd : ∀ x, F1 x → x.2.2.length ≤ 1000 ∧ ∀ y ∈ x.2.2, Inn (-1) 15 y := fun x hx => ⟨by have := hx.2.2.2.2.2.1; omega, hx.2.2.2.2.2.2⟩
  refine readAs51 (rd _ f0).1 (rd _ f0).2 (onIntK_iv (gateOf91 hb (kind_rng _) (onIntK_iv ?_)))
  show ifB (gk b (fd c 0) == -1) _ _
  refine ifB_mk (fun d => no (fun hp => hp.1 (by simpa using d))) (fun d => ?_)
  have d : gk b (fd c 0) ≠ -1 := by simpa using d
  obtain ⟨m, e1, e2, e3⟩ := (gate_rng b (kindOf (fd c 0).2.2)).resolve_left d
  have hS := hb.2.1
  have hS' := hb.2.2.1
  obtain ⟨hC1, hC2, hC3, hC4⟩ := hb.1
  have hg := hb.2.2.2.2.1.1 _ (mem_at (gt_get e2))
  have a1 := f0.1; have a2 := f0.2.1; have a3 := f1.1; have a4 := f1.2.1; have a5 := hg.1; have a6 := hg.2.1
  have hgg : gk b (fd c 0) = (m : Int) := e1
  have hgt : gt b (gk b (fd c 0)) = gt b m := by rw [hgg]
  refine onNat_mk hgg (gel0 (gt_get e2) ?_)
  rw [wr (n := (fd c (c.length - 1)).1 - (fd c 0).1) (by omega) (by omega), wr (n := 3 * b.S) (by omega) (by omega), wr (n := (fd c (c.length - 1)).1 - (fd c 0).1 + 3 * b.S) (by omega) (by omega), wr (n := (fd c (c.length - 1)).1 - (fd c 0).1 + 3 * b.S + 1) (by omega) (by omega), wr (n := (gt b m).1 - b.C) (by omega) (by omega)]
  refine ifB_mk (fun d2 => no (fun hp => by have := hp.2.1; rw [hgt] at this; have := of_decide_eq_true d2; omega)) (fun d2 => ?_)
  have d2 := of_decide_eq_false d2
  generalize hgv : gk b (fd c 0) = g at d hgg
  refine La.of (σ := Nat) (fun k => sh59 b c g k) (fun k => k ≤ c.length ∧ ∀ y ∈ c.take k, gk b y = g) (fun k => c.length - k) 0 (by rw [← fdl_length]; subst hgv; kernel_rfl) ⟨by simp, by simp⟩ ?_
  rintro k ⟨g1, g2⟩ J hJ
  refine see (p := ifB (decide ((↑k : Int) < (↑(fdl c).length : Int))) (onSome (fdl c)[k]? fun row => onCons (List.drop 0 row) fun u r => onIntK IntKind.i64 u fun n => onCons r fun u r => onIntK IntKind.i64 u fun n => onCons r fun u r => onLst u fun s es => K0G Try.prog glX 51 [V.lst s es] fun v => onIntK IntKind.i64 v fun n => K0G Try.prog glX 91 [V.agg [iv b.1, iv b.2, iv b.3, V.lst 2 (gl b.4), V.lst 1 (nl b.5)], iv n] fun v => onIntK IntKind.i64 v fun n => ifB (n != g) (R (iv (-1 : Int))) (J (St.mk (mkT [(2, V.ptr (Id.p 0) 0 0), (7, iv g), (44, V.lst 3 (fdl c)), (45, iv (↑(fdl c).length : Int)), (46, iv (IntKind.i64.wrap ((↑k : Int) + (1 : Int))))]) (Hp.mk [(0, O.rows 5 false [[iv b.1, iv b.2, iv b.3, V.lst 2 (gl b.4), V.lst 1 (nl b.5)]])] 1 [])))) (R (iv g))) (by kernel_rfl) ?_
  refine ifB_mk (fun hb' => ?_) (fun hb' => ?_)
  · have hlt : k < c.length := by rw [fdl_length] at hb'; have := of_decide_eq_true hb'; omega
    obtain ⟨x, hx⟩ := getI hlt
    have fx := h1 x (mem_at hx)
    rw [wr1i hlt (by omega)]
    refine fel hx (readAs51 (rd _ fx).1 (rd _ fx).2 (onIntK_iv (gateOf91 hb (kind_rng _) (onIntK_iv ?_))))
    show ifB (gk b x != g) _ _
    refine ifB_mk (fun e => no (fun hp => ?_)) (fun e => ?_)
    · have := hp.2.2 x (mem_at hx)
      rw [hgv] at this
      rw [this] at e; simp at e
    · exact hJ (k + 1) ⟨hlt, all_take hx g2 (by simpa using e)⟩ (by omega)
  · have hk : c.length ≤ k := by rw [fdl_length] at hb'; have := of_decide_eq_false hb'; omega
    rw [List.take_of_length_le hk] at g2
    rw [sortF, if_pos (dc_t (show SrP b c from ⟨by rw [hgv]; exact d, by rw [hgv, hgg]; omega, by rw [hgv]; exact g2⟩)), hgv] at h
    exact h
/-- The fate of a part that leaves at a gate, or at the end. -/
def fateF (b : Bt) (x : Fd) (g : Int) : Ft := if g = -1 then (kindOf x.2.2, -1, x.1 + b.L) else (kindOf x.2.2, (gt b g).2, x.1 + (gt b g).1)
def GtOK (b : Bt) (g : Int) : Prop := g = -1 ∨ ∃ m : Nat, g = m ∧ m < b.gs.length
theorem sort_ok (b : Bt) (c : List Fd) : GtOK b (sortF b c) := by
  unfold sortF
  split
  · rcases gate_rng b (kindOf (fd c 0).2.2) with h | ⟨m, h, h', _⟩
    · exact .inl h
    · exact .inr ⟨m, h, h'⟩
  · exact .inl rfl
theorem fate60 {b : Bt} {x : Fd} {g : Int} {R : V → Prop} (hb : BtP b) (hx : F1 x) (hg : GtOK b g) (h : R (.agg (ftr (fateF b x g)))) : K0G Try.prog glX 60 [.agg (bel b), .agg (fdr x), iv g] R := by
  refine K0_of_WY0 hmX hcT 3000 Try.func60 (see (p := K0G Try.prog glX 51 [V.lst 1 (nl x.2.2)] fun v => onIntK IntKind.i64 v fun n => ifB (g != (-1 : Int)) (onNat g fun m => onSome (gl b.4)[m]? fun row => onSome row[1]? fun v => onIntK IntKind.i64 v fun n_1 => onNat g fun m => onSome (gl b.4)[m]? fun row => onSome row[0]? fun v => onIntK IntKind.i64 v fun n_2 => R (V.agg [iv n, iv n_1, iv (IntKind.i64.wrap (x.1 + n_2))])) (R (V.agg [iv n, iv (-1 : Int), iv (IntKind.i64.wrap (x.1 + b.1))]))) (by kernel_rfl) ?_)
  have a1 := hx.1; have a2 := hx.2.1
  obtain ⟨hC1, hC2, hC3, hC4⟩ := hb.1
  refine readAs51 (by have := hx.2.2.2.2.2.1; omega) hx.2.2.2.2.2.2 (onIntK_iv ?_)
  unfold fateF at h
  refine ifB_mk (fun d => ?_) (fun d => ?_)
  · have d : g ≠ -1 := by simpa using d
    rw [if_neg d] at h
    obtain ⟨m, rfl, hm⟩ := hg.resolve_left d
    have hgm := hb.2.2.2.2.1.1 _ (mem_at (gt_get hm))
    have a5 := hgm.1; have a6 := hgm.2.1
    refine onNat_mk rfl (gel1 (gt_get hm) (onNat_mk rfl (gel0 (gt_get hm) ?_)))
    rw [wr (by omega) (by omega)]
    exact h
  · rw [if_pos (by simpa using d)] at h
    rw [wr (by omega) (by omega)]
    exact h
end Go.Proofs.Ytmdimnmdoifkfaa
