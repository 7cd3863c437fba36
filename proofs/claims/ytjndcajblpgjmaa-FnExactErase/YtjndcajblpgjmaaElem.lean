/-
  Walks: one element.
-/
import Derived.Test.YtjndcajblpgjmaaBody
namespace Go.Proofs.Ytjndcajblpgjmaa
open Go.RowKit
open M (OpD NodeD Gr)
set_option linter.unusedVariables false

theorem elem1 (nr nb sl : Nat) (S : Nat → Int) (arg : Int) : M.ElemOK nr nb ⟨1, sl, S, arg⟩ ↔ arg = 0 ∧ M.Canon sl S := by
  unfold M.ElemOK M.most
  constructor
  · rintro ⟨_, _, h, _, h1, h2⟩
    exact ⟨by simp at h1 h2; omega, h rfl⟩
  · rintro ⟨rfl, h⟩
    refine ⟨?_, ?_, fun _ => h, fun q => absurd rfl q, ?_, ?_⟩ <;> simp
theorem elem2 (nr nb sl : Nat) (S : Nat → Int) (arg : Int) : M.ElemOK nr nb ⟨2, sl, S, arg⟩ ↔ 0 ≤ arg ∧ arg < nr ∧ sl = 0 := by
  unfold M.ElemOK M.most
  simp
  omega
theorem elem3 (nr nb sl : Nat) (S : Nat → Int) (arg : Int) : M.ElemOK nr nb ⟨3, sl, S, arg⟩ ↔ 0 ≤ arg ∧ arg < nb ∧ sl = 0 := by
  unfold M.ElemOK M.most
  simp
  omega
theorem elem0 (nr nb sl : Nat) (S : Nat → Int) (kind arg : Int) (h : kind = 0 ∨ kind = 4 ∨ kind = 5 ∨ kind = 6 ∨ kind = 7) : M.ElemOK nr nb ⟨kind, sl, S, arg⟩ ↔ arg = 0 ∧ sl = 0 := by
  unfold M.ElemOK M.most
  rcases h with rfl | rfl | rfl | rfl | rfl <;> (simp; omega)
theorem elemx (nr nb sl : Nat) (S : Nat → Int) (kind arg : Int) (h : kind < 0 ∨ 7 < kind) : ¬ M.ElemOK nr nb ⟨kind, sl, S, arg⟩ := fun q => by
  have h1 := q.1
  have h2 := q.2.1
  simp at h1 h2
  omega

theorem elem_cases (k : Int) : k = 1 ∨ k = 2 ∨ k = 3 ∨ (k = 0 ∨ k = 4 ∨ k = 5 ∨ k = 6 ∨ k = 7) ∨ (k < 0 ∨ 7 < k) := by omega

set_option maxHeartbeats 2000000 in
theorem validElement_any (Q : Nat → Prop) (ra la sa : Option Addr) (nr rc nb lc sl sc : Nat) (S : Nat → Int) (kind arg : Int) (w : World) (hS : Ints Q .i64 w sa sl S)
    (h1 : nr ≤ 1048576) (h2 : nb ≤ 1048576) (h3 : sl ≤ 1048576) :
    Calls Try.prog 171 #[.agg #[.slice ra nr rc, .slice la nb lc], .agg #[.int .i64 kind, .slice sa sl sc, .int .i64 arg]] w (SaysB (M.ElemOK nr nb ⟨kind, sl, S, arg⟩) w) := by
  rcases elem_cases kind with rfl | rfl | rfl | hk | hk
  · by_cases e0 : arg = 0
    · subst e0
      have hI : ∀ o p, Ints Q .i64 ((w.alloc o).alloc p) sa sl S := fun o p => hS.later (bel2 w o p)
      go_enter Try.func171, Try.ntmps171
      go_wp2_with (go_at_call 201; refine (isCanonical_any Q sa sl sc S _ (hI _ _) h3).mono ?_; rintro e W ⟨⟨r, rfl, hr⟩, hb⟩; have HR : Hid _ := hr; have HB : Hid _ := hb; clear hr hb)
      go_ret
      exact ⟨⟨_, rfl, HR.out.trans ((elem1 nr nb sl S 0).trans ⟨fun q => q.2, fun q => ⟨rfl, q⟩⟩).symm⟩, bel_tr (bel2 w _ _) HB.out⟩
    · have f0 : (arg == 0) = false := by simp [e0]
      have E0 : Hid (¬ arg = 0) := e0
      clear e0
      go_enter Try.func171, Try.ntmps171
      go_wp2
      go_ret
      exact ⟨⟨false, rfl, iffF fun q => E0.out ((elem1 nr nb sl S arg).1 q).1⟩, bel2 w _ _⟩
  · go_enter Try.func171, Try.ntmps171
    go_wp2
    all_goals go_ret
    all_goals exact ⟨⟨_, rfl, by rw [elem2]; simp <;> omega⟩, bel2 w _ _⟩
  · go_enter Try.func171, Try.ntmps171
    go_wp2
    all_goals go_ret
    all_goals exact ⟨⟨_, rfl, by rw [elem3]; simp <;> omega⟩, bel2 w _ _⟩
  · rcases hk with rfl | rfl | rfl | rfl | rfl
    all_goals (
      go_enter Try.func171, Try.ntmps171
      go_wp2
      all_goals go_ret
      all_goals exact ⟨⟨_, rfl, by rw [elem0 _ _ _ _ _ _ (by omega)]; simp <;> omega⟩, bel2 w _ _⟩)
  · have HK : Hid (kind < 0 ∨ 7 < kind) := hk
    have f0 : (kind == 0) = false := by simp; omega
    have f1 : (kind == 1) = false := by simp; omega
    have f2 : (kind == 2) = false := by simp; omega
    have f3 : (kind == 3) = false := by simp; omega
    have f4 : (kind == 4) = false := by simp; omega
    have f5 : (kind == 5) = false := by simp; omega
    have f6 : (kind == 6) = false := by simp; omega
    have f7 : (kind == 7) = false := by simp; omega
    clear hk
    go_enter Try.func171, Try.ntmps171
    go_wp2
    go_ret
    exact ⟨⟨false, rfl, iffF (elemx _ _ _ _ _ _ HK.out)⟩, bel2 w _ _⟩

end Go.Proofs.Ytjndcajblpgjmaa
