/-
  Walks: bodies, element by element.
-/
import Derived.Test.YtjndcajblpgjmaaSets
namespace Go.Proofs.Ytjndcajblpgjmaa
open Go.RowKit
open M (OpD NodeD Gr)
set_option linter.unusedVariables false

set_option maxHeartbeats 1000000 in
theorem l2throws_any (Q : Nat → Prop) (a : Option Addr) (n c l : Nat) (B : Nat → OpD) (w : World) (hB : OpsA Q w a n B) (hn : n ≤ 1048576) :
    Calls Try.prog 55 #[.slice a n c, .int .i64 l] w (Says (M.Throws n B l) w) := by
  go_enter Try.func55, Try.ntmps55
  go_wp2
  go_loopw [5] (fun i wr => ∃ k : Nat, k ≤ n ∧ i = .int .i64 k ∧ wr = w ∧ ∀ j, j < k → ¬ ((B j).kind = 3 ∧ (B j).arg = l)) (fun i _ => n - (intOf i).toNat)
  case atStart => exact ⟨0, Nat.zero_le _, rfl, rfl, fun j hj => absurd hj (Nat.not_lt_zero _)⟩
  case round =>
    obtain ⟨k, hk, rfl, rfl, hall⟩ := hrel
    have HA : Hid (∀ j, j < k → ¬ ((B j).kind = 3 ∧ (B j).arg = l)) := hall
    clear hall
    by_cases hlt : k < n
    · rcases hB with h0 | ⟨b, off, rfl, hq, hB⟩
      · omega
      obtain ⟨c0, ⟨sa, sc, c1, hs⟩, c2⟩ := hB k hlt
      clear hs
      by_cases e3 : (B k).kind = 3
      · have f3 : ((B k).kind == 3) = true := by simp [e3]
        have E3 : Hid ((B k).kind = 3) := e3
        clear e3
        by_cases e4 : (B k).arg = l
        · have f4 : ((B k).arg == (l : Int)) = true := by simp [e4]
          have E4 : Hid ((B k).arg = l) := e4
          clear e4
          go_wp2
          go_ret
          exact ⟨⟨true, rfl, iffT ⟨k, hlt, E3.out, E4.out⟩⟩, rfl⟩
        · have f4 : ((B k).arg == (l : Int)) = false := by simp [e4]
          have E4 : Hid (¬ (B k).arg = l) := e4
          clear e4
          go_wp2
          go_roundw
          case rel => exact ⟨k + 1, by omega, by go_num, by trivial, fun j hj => if e : j = k then e ▸ fun q => E4.out q.2 else HA.out j (by omega)⟩
          case measure => simp [intOf]; omega
      · have f3 : ((B k).kind == 3) = false := by simp [e3]
        have E3 : Hid (¬ (B k).kind = 3) := e3
        clear e3
        go_wp2
        go_roundw
        case rel => exact ⟨k + 1, by omega, by go_num, by trivial, fun j hj => if e : j = k then e ▸ fun q => E3.out q.1 else HA.out j (by omega)⟩
        case measure => simp [intOf]; omega
    · obtain rfl : k = n := by omega
      go_wp2
      go_ret
      exact ⟨⟨false, rfl, iffF fun ⟨i, hi, q⟩ => HA.out i hi q⟩, rfl⟩

def shapeI (w : World) (n : Nat) (B : Nat → OpD) (d i : Value) (wr : World) : Prop :=
  ∃ j : Nat, j ≤ n ∧ d = .int .i64 (M.need B n j) ∧ i = .int .i64 ((n : Int) - 1 - j) ∧ wr = w ∧ ∀ t, t < j → M.need B n t ≠ 0

set_option maxHeartbeats 1000000 in
theorem l2shape_any (Q : Nat → Prop) (a : Option Addr) (n c : Nat) (B : Nat → OpD) (w : World) (hB : OpsA Q w a n B) (hn : n ≤ 1048576) :
    Calls Try.prog 113 #[.slice a n c] w (Says (M.Shape n B) w) := by
  go_enter Try.func113, Try.ntmps113
  go_wp2
  go_loopw [3, 4] (fun d i wr => shapeI w n B d i wr) (fun d i _ => (intOf i + 1).toNat)
  case atStart => exact ⟨0, Nat.zero_le _, rfl, by simp, rfl, fun j hj => absurd hj (Nat.not_lt_zero _)⟩
  case round =>
    obtain ⟨j, hj, rfl, rfl, rfl, hall⟩ := hrel
    have bd := M.need_bd B n j hall
    have HA : Hid (∀ t, t < j → M.need B n t ≠ 0) := hall
    clear hall
    by_cases hlt : j < n
    · rcases hB with h0 | ⟨b, off, rfl, hq, hB⟩
      · omega
      obtain ⟨p, hp⟩ : ∃ p : Nat, n - 1 - j = p := ⟨_, rfl⟩
      have HP : Hid (n - 1 - j = p) := hp
      have ei : (n : Int) - 1 - j = p := by omega
      have hpn : p < n := by omega
      have hpi : (p : Int) < n := by omega
      clear hp
      rw [ei]
      obtain ⟨c0, ⟨sa, sc, c1, hs⟩, c2⟩ := hB p hpn
      clear hs
      have hst : M.need B n (j + 1) = M.need B n j + (M.ar (B p).kind - 1) := by rw [M.need, HP.out]
      have har := M.ar_bd (B p).kind
      have HS : Hid (M.need B n (j + 1) = M.need B n j + (M.ar (B p).kind - 1)) := hst
      clear hst
      by_cases hz : M.need B n j = 0
      · have fz : (M.need B n j == 0) = true := by simp [hz]
        have HZ : Hid (M.need B n j = 0) := hz
        clear hz
        go_wp2
        go_ret
        exact ⟨⟨false, rfl, iffF fun q => ((M.shape_iff n B).2 q).1 j hlt HZ.out⟩, rfl⟩
      · have fz : (M.need B n j == 0) = false := by simp [hz]
        have HZ : Hid (¬ M.need B n j = 0) := hz
        clear hz
        go_wp2_with (go_at_call 165; refine (l2arity_any _ _).mono ?_; rintro e W ⟨rfl, hw⟩; subst W)
        go_roundw
        case rel => exact ⟨j + 1, by omega, val_int HS.out.symm, val_int (by omega), by trivial, fun t ht => if e : t = j then e ▸ HZ.out else HA.out t (by omega)⟩
        case measure => simp [intOf] <;> omega
    · obtain rfl : j = n := by omega
      have ei : (j : Int) - 1 - j = -1 := by omega
      rw [ei]
      go_wp2
      go_ret
      refine ⟨⟨_, rfl, ?_⟩, rfl⟩
      rw [← M.shape_iff]
      simp only [beq_iff_eq]
      exact ⟨fun q => ⟨HA.out, q⟩, fun q => q.2⟩

end Go.Proofs.Ytjndcajblpgjmaa
