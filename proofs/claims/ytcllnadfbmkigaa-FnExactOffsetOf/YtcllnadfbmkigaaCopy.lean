/-
  Walks: a copy of a text, two texts held against each other.
-/
import Derived.Test.YtcllnadfbmkigaaSpec
import Derived.Deep.OwnRows
import Derived.Below
import Derived.Deep.QuietTactic
import Derived.BigQuiet
namespace Go.Proofs.Ytcllnadfbmkigaa
open Go.RowKit
set_option linter.unusedVariables false

theorem Try.info5 : (Try.prog.info? 5).map (fun i => (i.zero, i.size, i.bytes)) = some (some (.int .u8 0), 1, 1) := by kernel_rfl

theorem lt_of_cell {w : World} {a : Addr} {v : Value} (h : w.cell? a = some v) : a.block < w.heap.size := by
  unfold World.cell? at h
  cases ho : w.heap[a.block]? with
  | none => simp [ho] at h
  | some o => exact (Array.getElem?_eq_some_iff.1 ho).1

theorem Tx.lt {w : World} {b off n : Nat} {T : Nat → Int} (h : Tx w b off n T) (hn : 0 < n) : b < w.heap.size := lt_of_cell (h 0 hn)
theorem Tx.below {B : Nat} {w w' : World} {b off n : Nat} {T : Nat → Int} (h : Tx w b off n T) (hb : b < B) (k : Below B w w') : Tx w' b off n T :=
  fun i hi => (k.cell (p := ⟨b, off + i, none⟩) hb).trans (h i hi)
theorem Tx.later {w w' : World} {b off n : Nat} {T : Nat → Int} (h : Tx w b off n T) (k : Below w.heap.size w w') : Tx w' b off n T := fun i hi =>
  (k.cell (p := ⟨b, off + i, none⟩) (lt_of_cell (h i hi))).trans (h i hi)

/-- What the copy's block holds after k rounds. -/
def half (T : Nat → Int) (k : Nat) (j : Nat) : Value := if j < k then .int .u8 (T j) else .int .u8 0

theorem half_step {w : World} {b n k : Nat} {T : Nat → Int} (h : w.rowIs b 5 n (half T k)) : (w.setCell ⟨b, k, none⟩ (.int .u8 (T k))).rowIs b 5 n (half T (k + 1)) := by
  refine (h.set k (.int .u8 (T k))).congr fun i _ => ?_
  unfold half
  by_cases e : i = k
  · subst e; simp
  · rw [if_neg e]
    by_cases e2 : i < k
    · rw [if_pos e2, if_pos (by omega)]
    · rw [if_neg e2, if_neg (by omega)]

set_option maxHeartbeats 1000000 in
theorem toByteS_in (b off n cap : Nat) (T : Nat → Int) (w : World) (hT : Tx w b off n T) (hb : ∀ i, 0 ≤ T i ∧ T i ≤ 255) (hn : n ≤ 1048576) :
    Calls Try.prog 5 #[.slice (some ⟨b, off, none⟩) n cap] w fun e w' => e = .returned (.slice (some ⟨w.heap.size, 0, none⟩) n n) ∧ w'.rowIs w.heap.size 5 n (fun i => .int .u8 (T i)) ∧ Below w.heap.size w w' ∧ w'.heap.size = w.heap.size + 1 := by
  have hmk := run_make_row' (P := Try.prog) 22 5 (.int .u8 0) 1 Try.underlying22 Try.info5 rfl .i64 .i64 n (by omega) (by omega)
  go_enter Try.func5, Try.ntmps5
  go_wp2
  go_loopw [4] (fun i wr => ∃ k : Nat, k ≤ n ∧ i = .int .i64 k ∧ wr.rowIs w.heap.size 5 n (half T k) ∧ Below w.heap.size w wr ∧ wr.heap.size = w.heap.size + 1) (fun i _ => n - (intOf i).toNat)
  case atStart =>
    exact ⟨0, Nat.zero_le _, rfl, (World.rowIs_made w _ n 5).congr fun i _ => by simp [half], (Below.refl _ w).alloc (Nat.le_refl _) _, by simp⟩
  case round =>
    obtain ⟨k, hk, rfl, hrow, hbel, hsz⟩ := hrel
    by_cases hlt : k < n
    · have hc1 := (hT.later hbel) k hlt
      have hc2 := hrow.cell hlt
      have hf2 := hrow.frozen k
      have hst := half_step hrow
      obtain ⟨x0, x1⟩ := hb k
      go_wp2
      go_roundw
      case rel => exact ⟨k + 1, by omega, by go_num, hst, hbel.setCell (p := ⟨w.heap.size, k, none⟩) (Nat.le_refl _) _, by simp [World.setCell, hsz]⟩
      case measure => simp [intOf]; omega
    · obtain rfl : k = n := by omega
      go_wp2
      go_ret
      exact ⟨rfl, hrow.congr fun i hi => by simp [half, hi], hbel, hsz⟩

set_option maxHeartbeats 1000000 in
theorem toByteS_empty (a : Option Addr) (cap : Nat) (T : Nat → Int) (w : World) :
    Calls Try.prog 5 #[.slice a 0 cap] w fun e w' => e = .returned (.slice (some ⟨w.heap.size, 0, none⟩) 0 0) ∧ w'.rowIs w.heap.size 5 0 (fun i => .int .u8 (T i)) ∧ Below w.heap.size w w' ∧ w'.heap.size = w.heap.size + 1 := by
  have hmk : ∀ w, (Instr.makeSlice 22 (.int .i64 0) (.int .i64 0)).run Try.prog w = .ok (.slice (some ⟨w.heap.size, 0, none⟩) 0 0) (w.alloc (.cells (madeCells #[.int .u8 0] 0) 5)) := fun w => run_make_row' (P := Try.prog) 22 5 (.int .u8 0) 1 Try.underlying22 Try.info5 rfl .i64 .i64 0 (by omega) (by omega) w
  go_enter Try.func5, Try.ntmps5
  go_wp2
  go_loopw [4] (fun i wr => i = .int .i64 0 ∧ wr.rowIs w.heap.size 5 0 (fun i => .int .u8 (T i)) ∧ Below w.heap.size w wr ∧ wr.heap.size = w.heap.size + 1) (fun i _ => 0)
  case atStart =>
    exact ⟨rfl, (World.rowIs_made w _ 0 5).congr fun i hi => by omega, (Below.refl _ w).alloc (Nat.le_refl _) _, by simp⟩
  case round =>
    obtain ⟨rfl, hrow, hbel, hsz⟩ := hrel
    go_wp2
    go_ret
    exact ⟨rfl, hrow, hbel, hsz⟩

/-- A text that came in: nil or empty; or cells. -/
def ArgT (w : World) (a : Option Addr) (n : Nat) (T : Nat → Int) : Prop := n = 0 ∨ ∃ b off, a = some ⟨b, off, none⟩ ∧ Tx w b off n T
theorem ArgT.later {w w' : World} {a : Option Addr} {n : Nat} {T : Nat → Int} (h : ArgT w a n T) (k : Below w.heap.size w w') : ArgT w' a n T := by
  rcases h with h | ⟨b, off, e, h⟩
  · exact .inl h
  · exact .inr ⟨b, off, e, h.later k⟩

theorem toByteS_any (a : Option Addr) (n cap : Nat) (T : Nat → Int) (w : World) (hT : ArgT w a n T) (hb : ∀ i, 0 ≤ T i ∧ T i ≤ 255) (hn : n ≤ 1048576) :
    Calls Try.prog 5 #[.slice a n cap] w fun e w' => e = .returned (.slice (some ⟨w.heap.size, 0, none⟩) n n) ∧ w'.rowIs w.heap.size 5 n (fun i => .int .u8 (T i)) ∧ Below w.heap.size w w' ∧ w'.heap.size = w.heap.size + 1 := by
  rcases hT with rfl | ⟨b, off, rfl, hT⟩
  · exact toByteS_empty a cap T w
  · exact toByteS_in b off n cap T w hT hb hn

theorem rowTx {w : World} {b n : Nat} {T : Nat → Int} (h : w.rowIs b 5 n (fun i => .int .u8 (T i))) : Tx w b 0 n T := fun i hi => by
  rw [Nat.zero_add]; exact h.cell hi

set_option maxHeartbeats 1000000 in
/-- Two copies of one text are the same. -/
theorem eqByteS_same (b1 o1 c1 b2 o2 c2 n : Nat) (T : Nat → Int) (w : World) (h1 : Tx w b1 o1 n T) (h2 : Tx w b2 o2 n T) (hb : ∀ i, 0 ≤ T i ∧ T i ≤ 255) (hn : n ≤ 1048576) :
    Calls Try.prog 7 #[.slice (some ⟨b1, o1, none⟩) n c1, .slice (some ⟨b2, o2, none⟩) n c2] w fun e w' => e = .returned (.bool true) ∧ ∃ k, w' = w.drewN k := by
  have ht : ((n : Int) != n) = false := by simp
  go_enter Try.func7, Try.ntmps7
  go_wp2
  go_loopw [5] (fun i wr => ∃ k : Nat, k ≤ n ∧ i = .int .i64 k ∧ ∃ j, wr = w.drewN j) (fun i _ => n - (intOf i).toNat)
  case atStart => exact ⟨0, Nat.zero_le _, rfl, 0, rfl⟩
  case round =>
    obtain ⟨k, hk, rfl, j, rfl⟩ := hrel
    by_cases hlt : k < n
    · have hc1 := h1 k hlt
      have hc2 := h2 k hlt
      have hne : (T k != T k) = false := by simp
      have hlt' : (k : Int) < (n : Int) := by omega
      go_wp2_with fail
      go_quiet (fail)
      go_wp2
      go_roundw
      case rel => exact ⟨k + 1, by omega, by go_num, _, rfl⟩
      case measure => simp [intOf]; omega
    · obtain rfl : k = n := by omega
      go_wp2
      go_ret
      exact ⟨rfl, _, rfl⟩

end Go.Proofs.Ytcllnadfbmkigaa
