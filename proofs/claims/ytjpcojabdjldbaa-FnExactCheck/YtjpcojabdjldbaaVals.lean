/-
  The value of every element.
-/
import Derived.Test.YtjpcojabdjldbaaOvB
import Derived.Test.YtjpcojabdjldbaaOvC
import Derived.Test.YtjpcojabdjldbaaOvD
import Derived.Test.YtjpcojabdjldbaaNull
namespace Go.Proofs.Ytjpcojabdjldbaa
open Go.RowKit
open M (OpD NodeD Gr)
set_option linter.unusedVariables false

theorem values_ok (ra la : Option Addr) (g : Gr) (rc lc : Nat) (h1 : g.nr ≤ 100) (h2 : g.nb ≤ 100) : ValuesOK ra la g rc lc := by
  intro S hS W gb mb hC o l W' sa oa sc oc hE hb hall har hO
  have k0 := hE.1
  have k7 := hE.2.1
  have hC' := hC.later hb
  have hk : (o.kind = 0 ∨ o.kind = 1) ∨ (o.kind = 2 ∨ o.kind = 3) ∨ o.kind = 4 ∨ o.kind = 5 ∨ o.kind = 6 ∨ o.kind = 7 := by omega
  rcases hk with hk | hk | hk | hk | hk | hk
  · have h0 : M.ar o.kind = 0 := by rcases hk with q | q <;> rw [q] <;> rfl
    have hv : valOf g.nr S o l = valO g.nr S o default default := by simp [valOf, h0]
    rw [hv, h0]
    exact ov_leaf gb mb ra la sa oa g.nr rc g.nb lc sc _ oc S o W' hC' hk
  · have h0 : M.ar o.kind = 0 := by rcases hk with q | q <;> rw [q] <;> rfl
    have hv : valOf g.nr S o l = valO g.nr S o default default := by simp [valOf, h0]
    rw [hv, h0]
    exact ov_name gb mb ra la sa oa g.nr rc g.nb lc sc _ oc S o W' hC' hk hE hS h1 h2
  · have h0 : M.ar o.kind = 2 := by rw [hk]; rfl
    obtain ⟨g', b, s2, y, s1, x, r, rfl, rfl, hx, hy⟩ := hO.2 h0
    have hv : valOf g.nr S o ((s2, y) :: (s1, x) :: r) = valO g.nr S o x y := by simp [valOf, h0]
    rw [hv, h0]
    exact ov_seq _ _ sa g.nr sc g' b oc S o x y W' hk hx hy (hall (s1, x) (by simp)) (hall (s2, y) (by simp))
  · have h0 : M.ar o.kind = 2 := by rw [hk]; rfl
    obtain ⟨g', b, s2, y, s1, x, r, rfl, rfl, hx, hy⟩ := hO.2 h0
    have hv : valOf g.nr S o ((s2, y) :: (s1, x) :: r) = valO g.nr S o x y := by simp [valOf, h0]
    rw [hv, h0]
    exact ov_alt _ _ sa g.nr sc g' b oc S o x y W' hk hx hy (hall (s1, x) (by simp)) (hall (s2, y) (by simp))
  · have h0 : M.ar o.kind = 1 := by rw [hk]; rfl
    obtain ⟨g', b, s, x, r, rfl, rfl, hx⟩ := hO.1 h0
    have hv : valOf g.nr S o ((s, x) :: r) = valO g.nr S o x default := by simp [valOf, h0]
    rw [hv, h0]
    exact ov_star _ _ sa g.nr sc g' b oc S o x W' hk hx
  · have h0 : M.ar o.kind = 1 := by rw [hk]; rfl
    obtain ⟨g', b, s, x, r, rfl, rfl, hx⟩ := hO.1 h0
    have hv : valOf g.nr S o ((s, x) :: r) = valO g.nr S o x default := by simp [valOf, h0]
    rw [hv, h0]
    exact ov_not _ _ sa g.nr sc g' b oc S o x W' hk hx

end Go.Proofs.Ytjpcojabdjldbaa
