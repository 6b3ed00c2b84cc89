/- The arguments of the hinge laws, opened: a linkage, a place, a proof of two panels. -/
import Derived.Test.YtahoindkdkhpmaaXCO
import Derived.Test.YtahoindkdkhpmaaXSeatR
namespace Go.Proofs.Ytahoindkdkhpmaa
open Go Go.Proofs.Ytahoindkdkhpmaa.Clean
set_option linter.unusedVariables false

def okI (n : Int) : Prop := -9223372036854775808 ≤ n ∧ n ≤ 9223372036854775807
def okS (s : Sp) : Prop := okI s.1 ∧ okI s.2
def okH (h : Hi) : Prop := okS h.1 ∧ okS h.2.1 ∧ okI h.2.2
def okP (p : List Sp) : Prop := p.length ≤ maxLen ∧ ∀ s ∈ p, okS s
def okL (l : Li) : Prop := (l.1.length ≤ maxLen ∧ ∀ p ∈ l.1, okP p) ∧ (l.2.length ≤ maxLen ∧ ∀ h ∈ l.2, okH h)
def okN (l : List Int) : Prop := l.length ≤ maxLen ∧ ∀ n ∈ l, okI n
def ap (a : Ap) : List V := [bv a.1, iv a.2.1, iv a.2.2.1, iv a.2.2.2.1, iv a.2.2.2.2.1, .lst 1 (il a.2.2.2.2.2)]
def okA (a : Ap) : Prop := okI a.2.1 ∧ okI a.2.2.1 ∧ okI a.2.2.2.1 ∧ okI a.2.2.2.2.1 ∧ okN a.2.2.2.2.2

section
variable {H : Type} {enc : TypeId × Value → H} {w : World}
theorem omap {P : Program} {t : TypeId} {α β : Type} {f : α → List V} {g : β → List V} {ok : α → Prop} {ok' : β → Prop} (h : Opens enc P w t f ok) (m : α → β) (hf : ∀ a, f a = g (m a)) (ho : ∀ a, ok a → ok' (m a)) : Opens enc P w t g ok' := by
  intro fuel cs x hx
  obtain ⟨a, h1, h2, h3⟩ := h fuel cs x hx
  exact ⟨m a, hf a ▸ h1, ho a h2, h3⟩
theorem opens_i : Opens enc Try.prog w 3 (fun n : Int => [iv n]) okI := omap (opens_int Try.underlying3) (fun n => n) (fun _ => rfl) (fun n h => wf_i64 h)
theorem opens_spot : Opens enc Try.prog w 29 sp okS := by
  have h2 := opensF_cons (enc := enc) (P := Try.prog) (w := w) (total := 2) (off := 1) (k := 1) (fd := { name := "Y", type := 3, offset := 1, embedded := false, tag := "", pkgPath := "", byteOffset := 8 }) rfl (by kernel_rfl) opens_i opensF_nil
  have h1 := opensF_cons (enc := enc) (P := Try.prog) (w := w) (total := 2) (off := 0) (k := 1) (fd := { name := "X", type := 3, offset := 0, embedded := false, tag := "", pkgPath := "", byteOffset := 0 }) rfl (by kernel_rfl) opens_i h2
  exact omap (opens_struct (total := 2) Try.underlying29 (by kernel_rfl) h1) (fun a => (a.1, a.2.1)) (fun a => rfl) (fun a h => ⟨h.1, h.2.1⟩)
theorem opens_panel : Opens enc Try.prog w 23 (fun p : List Sp => [pl p]) okP :=
  omap (opens_slice (s := 2) Try.underlying23 (by kernel_rfl) (by decide) opens_spot) (fun p => p) (fun p => rfl) (fun p h => h)
theorem opens_hinge : Opens enc Try.prog w 85 hi okH := by
  have h3 := opensF_cons (enc := enc) (P := Try.prog) (w := w) (total := 5) (off := 4) (k := 1) (fd := { name := "Angle", type := 3, offset := 4, embedded := false, tag := "", pkgPath := "", byteOffset := 32 }) rfl (by kernel_rfl) opens_i opensF_nil
  have h2 := opensF_cons (enc := enc) (P := Try.prog) (w := w) (total := 5) (off := 2) (k := 2) (fd := { name := "B", type := 29, offset := 2, embedded := false, tag := "", pkgPath := "", byteOffset := 16 }) rfl (by kernel_rfl) opens_spot h3
  have h1 := opensF_cons (enc := enc) (P := Try.prog) (w := w) (total := 5) (off := 0) (k := 2) (fd := { name := "A", type := 29, offset := 0, embedded := false, tag := "", pkgPath := "", byteOffset := 0 }) rfl (by kernel_rfl) opens_spot h2
  exact omap (opens_struct (total := 5) Try.underlying85 (by kernel_rfl) h1) (fun a => (a.1, a.2.1, a.2.2.1)) (fun a => rfl) (fun a h => ⟨h.1, h.2.1, h.2.2.1⟩)
theorem opens_link : Opens enc Try.prog w 27 lk okL := by
  have hp : Opens enc Try.prog w 24 (fun ps : List (List Sp) => [V.lst 1 (ps.map fun p => [pl p])]) (fun ps => ps.length ≤ maxLen ∧ ∀ p ∈ ps, okP p) := opens_slice (s := 1) Try.underlying24 (by kernel_rfl) (by decide) opens_panel
  have hh : Opens enc Try.prog w 25 (fun hs : List Hi => [V.lst 5 (hs.map hi)]) (fun hs => hs.length ≤ maxLen ∧ ∀ h ∈ hs, okH h) := opens_slice (s := 5) Try.underlying25 (by kernel_rfl) (by decide) opens_hinge
  have h2 := opensF_cons (enc := enc) (P := Try.prog) (w := w) (total := 2) (off := 1) (k := 1) (fd := { name := "Hinges", type := 25, offset := 1, embedded := false, tag := "", pkgPath := "", byteOffset := 24 }) rfl (by kernel_rfl) hh opensF_nil
  have h1 := opensF_cons (enc := enc) (P := Try.prog) (w := w) (total := 2) (off := 0) (k := 1) (fd := { name := "Panels", type := 24, offset := 0, embedded := false, tag := "", pkgPath := "", byteOffset := 0 }) rfl (by kernel_rfl) hp h2
  exact omap (opens_struct (total := 2) Try.underlying27 (by kernel_rfl) h1) (fun a => (a.1, a.2.1)) (fun a => rfl) (fun a h => ⟨h.1, h.2.1⟩)
theorem opens_ns : Opens enc Try.prog w 56 (fun l : List Int => [V.lst 1 (il l)]) okN := omap (opens_slice (s := 1) Try.underlying56 (by kernel_rfl) (by decide) opens_i) (fun l => l) (fun l => rfl) (fun l h => h)
theorem opens_apart : Opens enc Try.prog w 58 ap okA := by
  have h6 := opensF_cons (enc := enc) (P := Try.prog) (w := w) (total := 6) (off := 5) (k := 1) (fd := { name := "Inside", type := 56, offset := 5, embedded := false, tag := "", pkgPath := "", byteOffset := 40 }) rfl (by kernel_rfl) opens_ns opensF_nil
  have h5 := opensF_cons (enc := enc) (P := Try.prog) (w := w) (total := 6) (off := 4) (k := 1) (fd := { name := "E", type := 3, offset := 4, embedded := false, tag := "", pkgPath := "", byteOffset := 32 }) rfl (by kernel_rfl) opens_i h6
  have h4 := opensF_cons (enc := enc) (P := Try.prog) (w := w) (total := 6) (off := 3) (k := 1) (fd := { name := "C", type := 3, offset := 3, embedded := false, tag := "", pkgPath := "", byteOffset := 24 }) rfl (by kernel_rfl) opens_i h5
  have h3 := opensF_cons (enc := enc) (P := Try.prog) (w := w) (total := 6) (off := 2) (k := 1) (fd := { name := "B", type := 3, offset := 2, embedded := false, tag := "", pkgPath := "", byteOffset := 16 }) rfl (by kernel_rfl) opens_i h4
  have h2 := opensF_cons (enc := enc) (P := Try.prog) (w := w) (total := 6) (off := 1) (k := 1) (fd := { name := "A", type := 3, offset := 1, embedded := false, tag := "", pkgPath := "", byteOffset := 8 }) rfl (by kernel_rfl) opens_i h3
  have h1 := opensF_cons (enc := enc) (P := Try.prog) (w := w) (total := 6) (off := 0) (k := 1) (fd := { name := "Clear", type := 4, offset := 0, embedded := false, tag := "", pkgPath := "", byteOffset := 0 }) rfl (by kernel_rfl) (opens_bool Try.underlying4) h2
  exact omap (opens_struct (total := 6) Try.underlying58 (by kernel_rfl) h1) (fun a => (a.1, a.2.1, a.2.2.1, a.2.2.2.1, a.2.2.2.2.1, a.2.2.2.2.2.1)) (fun a => rfl) (fun a h => ⟨h.2.1, h.2.2.1, h.2.2.2.1, h.2.2.2.2.1, h.2.2.2.2.2.1⟩)
end
end Go.Proofs.Ytahoindkdkhpmaa
