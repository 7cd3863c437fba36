/-
  Walks: marks written into cells of which no more is known than that they may be written.
-/
import Derived.Test.YtkgopipejgcbiaaDoorMark
import Derived.Test.YtkgopipejgcbiaaDoorApp
namespace Go.Proofs.YtkgopipejgcbiaaDoor
open Go.RowKit
set_option linter.unusedVariables false

/-- The marks from m on. -/
def mk (m : Nat) (j : Nat) : Int := (((m + j) % 256 : Nat) : Int)

theorem mk_step {w : World} {g m k n : Nat} (h : Tx w g 0 k (mk m)) (hw : Wr w g n) (hk : k < n) : Tx (w.setCell ⟨g, k, none⟩ (.int .u8 (mk m k))) g 0 (k + 1) (mk m) ∧ Wr (w.setCell ⟨g, k, none⟩ (.int .u8 (mk m k))) g n := by
  obtain ⟨u, hu⟩ := Option.isSome_iff_exists.1 (hw k hk).1
  have same := World.cell?_setCell_same w ⟨g, k, none⟩ (.int .u8 (mk m k)) hu
  refine ⟨fun j hj => ?_, fun j hj => ⟨?_, ?_⟩⟩
  · rw [Nat.zero_add]
    by_cases e : j = k
    · subst e; exact same
    · rw [World.cell?_setCell_other _ _ _ _ (by simp only [ne_eq, Addr.mk.injEq, true_and, and_true]; omega)]
      have := h j (by omega)
      rwa [Nat.zero_add] at this
  · by_cases e : j = k
    · subst e; rw [same]; rfl
    · rw [World.cell?_setCell_other _ _ _ _ (by simp only [ne_eq, Addr.mk.injEq, true_and, and_true]; omega)]
      exact (hw j hj).1
  · rw [World.frozen?_setCell]
    exact (hw j hj).2

set_option maxHeartbeats 1000000 in
theorem mark_wr (g n cap m : Nat) (w : World) (hw : Wr w g n) (hn2 : n ≤ 8388608) (hm : m ≤ 8388608) :
    Calls Tryd.prog 8 #[.slice (some ⟨g, 0, none⟩) n cap, .int .i64 m] w fun e w' => e = .returned (.int .i64 (m + n : Nat)) ∧ Tx w' g 0 n (mk m) ∧ Keep (fun k => k = g) w w' ∧ w'.heap.size = w.heap.size := by
  go_enter Tryd.func8, Tryd.ntmps8
  go_wp2
  go_loopw [5, 1] (fun i c wr => ∃ k : Nat, k ≤ n ∧ i = .int .i64 k ∧ c = .int .i64 ((m + k : Nat) : Int) ∧ Tx wr g 0 k (mk m) ∧ Wr wr g n ∧ Keep (fun k => k = g) w wr ∧ wr.heap.size = w.heap.size) (fun i _ _ => n - (intOf i).toNat)
  case atStart =>
    exact ⟨0, Nat.zero_le _, rfl, rfl, fun j hj => by omega, hw, Keep.refl _ _, rfl⟩
  case round =>
    obtain ⟨k, hk, rfl, rfl, htx, hwr, hkp, hsz⟩ := hrel
    by_cases hlt : k < n
    · obtain ⟨s1, s2⟩ := mk_step htx hwr hlt
      obtain ⟨c1, hf2⟩ := hwr k hlt
      obtain ⟨u, hc2⟩ := Option.isSome_iff_exists.1 c1
      have hw8 : IntKind.u8.wrap ((m + k : Nat) : Int) = mk m k := wrap8 (m + k)
      clear htx hwr c1
      go_wp2
      go_roundw
      case rel => exact ⟨k + 1, by omega, by go_num, by go_num, s1, s2, hkp.trans (Keep.setCell _ _ _ rfl), by simp [World.setCell, hsz]⟩
      case measure => simp [intOf]; omega
    · obtain rfl : k = n := by omega
      go_wp2
      go_ret
      exact ⟨rfl, htx, hkp, hsz⟩

set_option maxHeartbeats 1000000 in
theorem held_tx (g n cap m : Nat) (w : World) (hr : Tx w g 0 n (mk m)) (hn2 : n ≤ 8388608) (hm : m ≤ 8388608) :
    Calls Tryd.prog 9 #[.slice (some ⟨g, 0, none⟩) n cap, .int .i64 m] w fun e w' => e = .returned (.int .i64 (m + n : Nat)) ∧ w' = w := by
  go_enter Tryd.func9, Tryd.ntmps9
  go_wp2
  go_loopw [5, 1] (fun i c wr => ∃ k : Nat, k ≤ n ∧ i = .int .i64 k ∧ c = .int .i64 ((m + k : Nat) : Int) ∧ w = wr) (fun i _ _ => n - (intOf i).toNat)
  case atStart =>
    exact ⟨0, Nat.zero_le _, rfl, rfl, rfl⟩
  case round =>
    obtain ⟨k, hk, rfl, rfl, rfl⟩ := hrel
    by_cases hlt : k < n
    · have hc2 : w.cell? ⟨g, k, none⟩ = some (.int .u8 (((m + k) % 256 : Nat) : Int)) := by
        have := hr k hlt
        rwa [Nat.zero_add] at this
      have hne : ((((m + k) % 256 : Nat) : Int) != (((m + k) % 256 : Nat) : Int)) = false := by simp
      go_wp2
      go_roundw
      case rel => exact ⟨k + 1, by omega, by go_num, by go_num, trivial⟩
      case measure => simp [intOf]; omega
    · obtain rfl : k = n := by omega
      go_wp2
      go_ret
      exact ⟨rfl, rfl⟩

theorem rowWr {w : World} {b n : Nat} {f : Nat → Value} (h : w.rowIs b 5 n f) : Wr w b n := fun j hj => ⟨by rw [h.cell hj]; rfl, h.frozen j⟩

end Go.Proofs.YtkgopipejgcbiaaDoor
