/-
  Walks: the program's LineCol.
-/
import Derived.Test.YtkgopipejgcbiaaDoorHolding
import Derived.Test.YtkgopipejgcbiaaDoorSpecLines
import Derived.Deep.RegionWith
namespace Go.Proofs.YtkgopipejgcbiaaDoor
open Go.RowKit Go.Shelf
set_option linter.unusedVariables false

theorem line_end {T : Nat → Int} {n f : Nat} (hf : f ≤ n) : f + lnLen T n f ≤ n ∧ (f + lnLen T n f < n → T (f + lnLen T n f) = 10) := by
  have := lnLen_le T n f
  exact ⟨by omega, lnLen_at⟩

theorem lc_of {T : Nat → Int} {n q f c num : Nat} (hf : f ≤ n) (hnum : num = 1 + M.cnt T f) (hst : f = 0 ∨ T (f - 1) = 10) (h1 : f ≤ q) (h2 : q ≤ f + lnLen T n f)
    (hc : ∀ j, j < c → f + M.pos (sh T f) (lnLen T n f) 0 j < q) (hqc : q ≤ f + M.pos (sh T f) (lnLen T n f) 0 c) : LC T n q num (c + 1) := by
  obtain ⟨e1, e2⟩ := line_end (T := T) hf
  have hp : ∀ d, d ≤ c → M.pos T n f d = f + M.pos (sh T f) (lnLen T n f) 0 d := fun d hd => M.pos_body T n f (lnLen T n f) d e1 e2 (fun j hj => by have := hc j (by omega); show M.pos (sh T f) (lnLen T n f) 0 j < _; omega)
  refine ⟨f, c, ⟨h1, hst, fun j a d => lnLen_not (n := n) a (by omega)⟩, ⟨fun j hj => by rw [hp j (by omega)]; exact hc j hj, by rw [hp c (Nat.le_refl _)]; exact hqc⟩, ?_, rfl⟩
  rw [hnum, M.cnt_same T f q h1 (fun j a d => lnLen_not (n := n) a (by omega))]

end Go.Proofs.YtkgopipejgcbiaaDoor
