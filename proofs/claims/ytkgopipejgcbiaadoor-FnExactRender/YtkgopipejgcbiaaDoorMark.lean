/-
  Walks: marks written into a row and found again; two rows held against each other, of greater length.
-/
import Derived.Test.YtkgopipejgcbiaaDoorCopy
import Derived.Test.YtkgopipejgcbiaaDoorIter
namespace Go.Proofs.YtkgopipejgcbiaaDoor
open Go.RowKit
set_option linter.unusedVariables false

/-- The row behind k marks from m on. -/
def marked (f : Nat → Value) (m k : Nat) (j : Nat) : Value := if j < k then .int .u8 (((m + j) % 256 : Nat) : Int) else f j

theorem marked_step {w : World} {b N m k : Nat} {f : Nat → Value} (h : w.rowIs b 5 N (marked f m k)) : (w.setCell ⟨b, k, none⟩ (.int .u8 (((m + k) % 256 : Nat) : Int))).rowIs b 5 N (marked f m (k + 1)) := by
  refine (h.set k (.int .u8 (((m + k) % 256 : Nat) : Int))).congr fun i _ => ?_
  unfold marked
  by_cases e : i = k
  · subst e; simp
  · rw [if_neg e]
    by_cases e2 : i < k
    · rw [if_pos e2, if_pos (by omega)]
    · rw [if_neg e2, if_neg (by omega)]

theorem wrap8 (m : Nat) : IntKind.u8.wrap (m : Int) = ((m % 256 : Nat) : Int) := by
  simp [IntKind.wrap, IntKind.signed, IntKind.bits]

set_option maxHeartbeats 1000000 in
theorem mark_any (g n cap N m : Nat) (f : Nat → Value) (w : World) (hr : w.rowIs g 5 N f) (hn : n ≤ N) (hn2 : n ≤ 8388608) (hm : m ≤ 8388608) :
    Calls Tryd.prog 8 #[.slice (some ⟨g, 0, none⟩) n cap, .int .i64 m] w fun e w' => e = .returned (.int .i64 (m + n : Nat)) ∧ w'.rowIs g 5 N (marked f m n) ∧ Keep (fun k => k = g) w w' ∧ w'.heap.size = w.heap.size := by
  go_enter Tryd.func8, Tryd.ntmps8
  go_wp2
  go_loopw [5, 1] (fun i c wr => ∃ k : Nat, k ≤ n ∧ i = .int .i64 k ∧ c = .int .i64 ((m + k : Nat) : Int) ∧ wr.rowIs g 5 N (marked f m k) ∧ Keep (fun k => k = g) w wr ∧ wr.heap.size = w.heap.size) (fun i _ _ => n - (intOf i).toNat)
  case atStart =>
    exact ⟨0, Nat.zero_le _, rfl, rfl, hr.congr fun i _ => by simp [marked], Keep.refl _ _, rfl⟩
  case round =>
    obtain ⟨k, hk, rfl, rfl, hrow, hkp, hsz⟩ := hrel
    by_cases hlt : k < n
    · have hc2 := hrow.cell (i := k) (by omega)
      have hf2 := hrow.frozen k
      have hst := marked_step hrow
      have hwr := wrap8 (m + k)
      go_wp2
      go_roundw
      case rel => exact ⟨k + 1, by omega, by go_num, by go_num, hst, hkp.trans (Keep.setCell _ _ _ rfl), by simp [World.setCell, hsz]⟩
      case measure => simp [intOf]; omega
    · obtain rfl : k = n := by omega
      go_wp2
      go_ret
      exact ⟨rfl, hrow, hkp, hsz⟩

set_option maxHeartbeats 1000000 in
theorem mark_empty (a : Option Addr) (cap m : Nat) (w : World) :
    Calls Tryd.prog 8 #[.slice a 0 cap, .int .i64 m] w fun e w' => e = .returned (.int .i64 m) ∧ w' = w := by
  go_enter Tryd.func8, Tryd.ntmps8
  go_wp2
  go_loopw [5, 1] (fun i c wr => i = .int .i64 0 ∧ c = .int .i64 m ∧ w = wr) (fun i _ _ => 0)
  case atStart => exact ⟨rfl, rfl, rfl⟩
  case round =>
    obtain ⟨rfl, rfl, rfl⟩ := hrel
    go_wp2
    go_ret
    exact ⟨rfl, rfl⟩

set_option maxHeartbeats 1000000 in
theorem held_any (g n cap N m : Nat) (f : Nat → Value) (w : World) (hr : w.rowIs g 5 N (marked f m n)) (hn : n ≤ N) (hn2 : n ≤ 8388608) (hm : m ≤ 8388608) :
    Calls Tryd.prog 9 #[.slice (some ⟨g, 0, none⟩) n cap, .int .i64 m] w fun e w' => e = .returned (.int .i64 (m + n : Nat)) ∧ w' = w := by
  go_enter Tryd.func9, Tryd.ntmps9
  go_wp2
  go_loopw [5, 1] (fun i c wr => ∃ k : Nat, k ≤ n ∧ i = .int .i64 k ∧ c = .int .i64 ((m + k : Nat) : Int) ∧ w = wr) (fun i _ _ => n - (intOf i).toNat)
  case atStart =>
    exact ⟨0, Nat.zero_le _, rfl, rfl, rfl⟩
  case round =>
    obtain ⟨k, hk, rfl, rfl, rfl⟩ := hrel
    by_cases hlt : k < n
    · have hc2 : w.cell? ⟨g, k, none⟩ = some (.int .u8 (((m + k) % 256 : Nat) : Int)) := by
        have := hr.cell (i := k) (by omega)
        rw [this]; simp [marked, hlt]
      have hwr := wrap8 (m + k)
      have hne : ((((m + k) % 256 : Nat) : Int) != (((m + k) % 256 : Nat) : Int)) = false := by simp
      go_wp2
      go_roundw
      case rel => exact ⟨k + 1, by omega, by go_num, by go_num, trivial⟩
      case measure => simp [intOf]; omega
    · obtain rfl : k = n := by omega
      go_wp2
      go_ret
      exact ⟨rfl, rfl⟩

set_option maxHeartbeats 1000000 in
theorem held_empty (a : Option Addr) (cap m : Nat) (w : World) :
    Calls Tryd.prog 9 #[.slice a 0 cap, .int .i64 m] w fun e w' => e = .returned (.int .i64 m) ∧ w' = w := by
  go_enter Tryd.func9, Tryd.ntmps9
  go_wp2
  go_loopw [5, 1] (fun i c wr => i = .int .i64 0 ∧ c = .int .i64 m ∧ w = wr) (fun i _ _ => 0)
  case atStart => exact ⟨rfl, rfl, rfl⟩
  case round =>
    obtain ⟨rfl, rfl, rfl⟩ := hrel
    go_wp2
    go_ret
    exact ⟨rfl, rfl⟩

set_option maxHeartbeats 1000000 in
theorem eq_empty (a1 a2 : Option Addr) (c1 c2 : Nat) (w : World) :
    Calls Tryd.prog 7 #[.slice a1 0 c1, .slice a2 0 c2] w fun e w' => e = .returned (.bool true) ∧ ∃ k, w' = w.drewN k := by
  go_enter Tryd.func7, Tryd.ntmps7
  go_wp2
  go_loopw [5] (fun i wr => i = .int .i64 0 ∧ w = wr) (fun i _ => 0)
  case atStart => exact ⟨rfl, rfl⟩
  case round =>
    obtain ⟨rfl, rfl⟩ := hrel
    go_wp2
    go_ret
    exact ⟨rfl, 0, rfl⟩

set_option maxHeartbeats 1000000 in
/-- Two rows of the same bytes, of greater length. -/
theorem eq_big (b1 o1 c1 b2 o2 c2 n : Nat) (T : Nat → Int) (w : World) (h1 : Tx w b1 o1 n T) (h2 : Tx w b2 o2 n T) (hb : ∀ i, 0 ≤ T i ∧ T i ≤ 255) (hn : n ≤ 8388608) :
    Calls Tryd.prog 7 #[.slice (some ⟨b1, o1, none⟩) n c1, .slice (some ⟨b2, o2, none⟩) n c2] w fun e w' => e = .returned (.bool true) ∧ ∃ k, w' = w.drewN k := by
  have ht : ((n : Int) != n) = false := by simp
  go_enter Tryd.func7, Tryd.ntmps7
  go_wp2
  go_loopw [5] (fun i wr => ∃ k : Nat, k ≤ n ∧ i = .int .i64 k ∧ ∃ j, wr = w.drewN j) (fun i _ => n - (intOf i).toNat)
  case atStart => exact ⟨0, Nat.zero_le _, rfl, 0, rfl⟩
  case round =>
    obtain ⟨k, hk, rfl, j, rfl⟩ := hrel
    by_cases hlt : k < n
    · have hc1 := h1 k hlt
      have hc2 := h2 k hlt
      have hne : (T k != T k) = false := by simp
      have hlt' : (k : Int) < (n : Int) := by omega
      go_wp2_with fail
      go_quiet (fail)
      go_wp2
      go_roundw
      case rel => exact ⟨k + 1, by omega, by go_num, _, rfl⟩
      case measure => simp [intOf]; omega
    · obtain rfl : k = n := by omega
      go_wp2
      go_ret
      exact ⟨rfl, _, rfl⟩

end Go.Proofs.YtkgopipejgcbiaaDoor
