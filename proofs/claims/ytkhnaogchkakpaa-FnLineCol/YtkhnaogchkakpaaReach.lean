/-
  How one comes from a character to the next.
-/
import Derived.Test.YtkhnaogchkakpaaOffsetOf
namespace Go.Proofs.Ytkhnaogchkakpaa
open Go.RowKit
set_option linter.unusedVariables false

theorem char_high {T : Nat → Int} {n p j : Nat} (h1 : p < j) (h2 : j < p + M.cl T n p) : 128 ≤ T j := by
  unfold M.cl at h2
  split at h2
  · split at h2
    · rename_i hg
      unfold M.good at hg
      have := of_decide_eq_true hg (j - p - 1) (by omega)
      have e : p + 1 + (j - p - 1) = j := by omega
      rw [e] at this
      have hlo : 128 ≤ M.loB (T p) (j - p - 1) := by
        unfold M.loB M.lo2
        split <;> (try split) <;> (try split) <;> (try split) <;> omega
      omega
    · omega
  · omega

theorem cl_nl {T : Nat → Int} {n p : Nat} (h : T p = 10) : M.cl T n p = 1 := by
  have hl : M.lsz (T p) = 1 := by rw [h]; rfl
  unfold M.cl
  rw [hl]
  split <;> (try split) <;> rfl

theorem reach_zero {T : Nat → Int} {n : Nat} : Reach T n 0 1 1 := ⟨0, 0, Nat.le_refl _, Nat.zero_le _, .inl rfl, fun j _ h => by omega, rfl, rfl, rfl⟩

theorem reach_nl {T : Nat → Int} {n p L C : Nat} (h : Reach T n p L C) (hp : p < n) (h10 : T p = 10) : Reach T n (p + 1) (L + 1) 1 := by
  obtain ⟨f, k, h1, h2, h3, h4, h5, h6, h7⟩ := h
  refine ⟨p + 1, 0, Nat.le_refl _, by omega, .inr (by rw [Nat.add_sub_cancel]; exact h10), fun j a b => by omega, ?_, rfl, rfl⟩
  rw [M.cnt_nl T p h10, M.cnt_same T f p h1 h4]
  omega

theorem reach_ch {T : Nat → Int} {n p L C : Nat} (h : Reach T n p L C) (hp : p < n) (h10 : T p ≠ 10) : Reach T n (p + M.cl T n p) L (C + 1) := by
  obtain ⟨f, k, h1, h2, h3, h4, h5, h6, h7⟩ := h
  have hc := M.cl_pos T n p
  refine ⟨f, k + 1, by omega, M.cl_le T n p hp, h3, fun j a b => ?_, h5, by omega, ?_⟩
  · by_cases e : j < p
    · exact h4 j a e
    · by_cases e2 : j = p
      · subst e2; exact h10
      · have := char_high (T := T) (n := n) (p := p) (j := j) (by omega) b
        omega
  · simp only [M.pos]
    rw [← h7]

theorem reach_bd {T : Nat → Int} {n p L C : Nat} (h : Reach T n p L C) : L ≤ p + 1 ∧ C ≤ p + 1 ∧ p ≤ n := by
  obtain ⟨f, k, h1, h2, h3, h4, h5, h6, h7⟩ := h
  have := M.cnt_le T f
  have := M.pos_ge T n f k
  omega

theorem reach_lc {T : Nat → Int} {n p L C : Nat} (h : Reach T n p L C) : LC T n p L C := by
  obtain ⟨f, k, h1, h2, h3, h4, h5, h6, h7⟩ := h
  refine ⟨f, k, ⟨h1, h3, h4⟩, ⟨fun j hj => by rw [h7]; exact M.pos_strict T n f j k hj, by rw [← h7]; exact Nat.le_refl _⟩, ?_, h6⟩
  rw [h5, M.cnt_same T f p h1 h4]

end Go.Proofs.Ytkhnaogchkakpaa
