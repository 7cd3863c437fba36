/-
  Walks: the model's numeral.
-/
import Derived.Test.YtkgopipejgcbiaaDoorShelf
import Derived.Test.YtkgopipejgcbiaaDoorCopy
namespace Go.Proofs.YtkgopipejgcbiaaDoor
open Go.RowKit
set_option linter.unusedVariables false

theorem ba_append (a b : List UInt8) : (⟨a.toArray⟩ : ByteArray) ++ (⟨b.toArray⟩ : ByteArray) = ⟨(a ++ b).toArray⟩ := by
  apply ByteArray.ext
  simp

theorem dec_len (u : Nat) : (Lib.decDigits u).length ≤ u + 1 := by
  induction u using Nat.strongRecOn with
  | _ u ih =>
    by_cases h : u < 10
    · rw [Lib.decDigits_one h]; simp
    · have := ih (u / 10) (by omega)
      rw [Lib.decDigits, dif_neg h]
      simp
      omega
theorem dec_pos (u : Nat) : 1 ≤ (Lib.decDigits u).length := by
  by_cases h : u < 10
  · rw [Lib.decDigits_one h]; simp
  · rw [Lib.decDigits, dif_neg h]
    simp

set_option maxHeartbeats 1000000 in
theorem dec_small (u : Nat) (h : u < 10) (w : World) : Calls Tryd.prog 11 #[.int .i64 u] w fun e w' => e = .returned (.string ⟨(Lib.decDigits u).toArray⟩) ∧ w' = w := by
  rw [Lib.decDigits_one h]
  have hd : (u : Int) < 10 := by omega
  go_enter Tryd.func11, Tryd.ntmps11
  obtain rfl | rfl | rfl | rfl | rfl | rfl | rfl | rfl | rfl | rfl : u = 0 ∨ u = 1 ∨ u = 2 ∨ u = 3 ∨ u = 4 ∨ u = 5 ∨ u = 6 ∨ u = 7 ∨ u = 8 ∨ u = 9 := by omega
  all_goals
    go_wp2
    go_ret
    exact ⟨rfl, rfl⟩

set_option maxHeartbeats 1000000 in
theorem dec_any (u : Nat) (hu : u ≤ 8388608) (w : World) : Calls Tryd.prog 11 #[.int .i64 u] w fun e w' => e = .returned (.string ⟨(Lib.decDigits u).toArray⟩) ∧ w' = w := by
  induction u using Nat.strongRecOn generalizing w with
  | _ u ih =>
    by_cases h : u < 10
    · exact dec_small u h w
    · have hq : Int.tdiv (u : Int) 10 = ((u / 10 : Nat) : Int) := by rw [Int.tdiv_eq_ediv_of_nonneg (by omega)]; omega
      have hr : Int.tmod (u : Int) 10 = ((u % 10 : Nat) : Int) := by rw [Int.tmod_eq_emod_of_nonneg (by omega)]; omega
      have hd : ¬ ((u : Int) < 10) := by omega
      have ih1 := ih (u / 10) (by omega) (by omega)
      have ih2 := dec_small (u % 10) (by omega)
      have hD : Lib.decDigits u = Lib.decDigits (u / 10) ++ Lib.decDigits (u % 10) := by
        rw [Lib.decDigits_one (show u % 10 < 10 by omega)]
        conv => lhs; rw [Lib.decDigits, dif_neg h]
      have hA := ba_append (Lib.decDigits (u / 10)) (Lib.decDigits (u % 10))
      rw [hD, ← hA]
      have l1 := dec_len (u / 10)
      have l2 := dec_len (u % 10)
      have hs : ¬ (9223372036854775807 < (⟨(Lib.decDigits (u / 10)).toArray⟩ : ByteArray).size + (⟨(Lib.decDigits (u % 10)).toArray⟩ : ByteArray).size) := by
        show ¬ (9223372036854775807 < (Lib.decDigits (u / 10)).length + (Lib.decDigits (u % 10)).length)
        omega
      clear hA hD ih l1 l2
      generalize hx : (⟨(Lib.decDigits (u / 10)).toArray⟩ : ByteArray) = x at *
      generalize hy : (⟨(Lib.decDigits (u % 10)).toArray⟩ : ByteArray) = y at *
      go_enter Tryd.func11, Tryd.ntmps11
      go_wp2_with fail
      refine (ih1 _).mono ?_
      rintro e w1 ⟨rfl, rfl⟩
      go_wp2_with fail
      refine (ih2 _).mono ?_
      rintro e w2 ⟨rfl, rfl⟩
      go_wp2
      go_ret
      exact ⟨rfl, rfl⟩

end Go.Proofs.YtkgopipejgcbiaaDoor
