/-
  Walks: letters, digits, numbers of operands.
-/
import Derived.Test.YtjndcajblpgjmaaMem
namespace Go.Proofs.Ytjndcajblpgjmaa
open Go.RowKit
set_option linter.unusedVariables false

theorem iffT {P : Prop} (h : P) : (true = true ↔ P) := ⟨fun _ => h, fun _ => rfl⟩
theorem iffF {P : Prop} (h : ¬ P) : (false = true ↔ P) := ⟨(fun e => absurd e (by decide)), fun q => absurd q h⟩

/-- The call answers whether P holds, and leaves the world as it was. -/
def Says (P : Prop) (w : World) (e : Ending) (w' : World) : Prop := (∃ r : Bool, e = .returned (.bool r) ∧ (r = true ↔ P)) ∧ w = w'
/-- The call answers whether P holds, and leaves what was there as it was. -/
def SaysB (P : Prop) (w : World) (e : Ending) (w' : World) : Prop := (∃ r : Bool, e = .returned (.bool r) ∧ (r = true ↔ P)) ∧ Below w.heap.size w w'
theorem Says.b {P : Prop} {w w' : World} {e : Ending} (h : Says P w e w') : SaysB P w e w' := by
  obtain ⟨h1, rfl⟩ := h; exact ⟨h1, Below.refl _ _⟩

theorem letter_cases (c : Int) : c < 65 ∨ (65 ≤ c ∧ c ≤ 90) ∨ (90 < c ∧ c < 95) ∨ c = 95 ∨ c = 96 ∨ (97 ≤ c ∧ c ≤ 122) ∨ 122 < c := by omega
theorem digit_cases (c : Int) : c < 48 ∨ (48 ≤ c ∧ c ≤ 57) ∨ 57 < c := by omega
theorem letterT {c : Int} (h : (97 ≤ c ∧ c ≤ 122) ∨ (65 ≤ c ∧ c ≤ 90) ∨ c = 95) : M.Letter c := h
theorem letterF {c : Int} (h : ¬ ((97 ≤ c ∧ c ≤ 122) ∨ (65 ≤ c ∧ c ≤ 90) ∨ c = 95)) : ¬ M.Letter c := h
theorem digitT {c : Int} (h : 48 ≤ c ∧ c ≤ 57) : M.Digit c := h
theorem digitF {c : Int} (h : ¬ (48 ≤ c ∧ c ≤ 57)) : ¬ M.Digit c := h

set_option maxHeartbeats 1000000 in
theorem beginsName_any (c : Int) (w : World) (h0 : 0 ≤ c) (h1 : c ≤ 255) :
    Calls Try.prog 169 #[.int .u8 c] w (Says (M.Letter c) w) := by
  rcases letter_cases c with h | ⟨h, h'⟩ | ⟨h, h'⟩ | h | h | ⟨h, h'⟩ | h
  all_goals (try subst h)
  all_goals (
    go_enter Try.func169, Try.ntmps169
    go_wp2
    go_ret
    exact ⟨⟨_, rfl, by simp [M.Letter] <;> omega⟩, rfl⟩)

set_option maxHeartbeats 1000000 in
theorem l2letter_any (c : Int) (w : World) (h0 : 0 ≤ c) (h1 : c ≤ 255) :
    Calls Try.prog 110 #[.int .u8 c] w (Says (M.Letter c) w) := by
  rcases letter_cases c with h | ⟨h, h'⟩ | ⟨h, h'⟩ | h | h | ⟨h, h'⟩ | h
  all_goals (try subst h)
  all_goals (
    go_enter Try.func110, Try.ntmps110
    go_wp2
    go_ret
    exact ⟨⟨_, rfl, by simp [M.Letter] <;> omega⟩, rfl⟩)

set_option maxHeartbeats 1000000 in
theorem l2digit_any (c : Int) (w : World) (h0 : 0 ≤ c) (h1 : c ≤ 255) :
    Calls Try.prog 111 #[.int .u8 c] w (Says (M.Digit c) w) := by
  rcases digit_cases c with h | ⟨h, h'⟩ | h
  all_goals (
    go_enter Try.func111, Try.ntmps111
    go_wp2
    go_ret
    exact ⟨⟨_, rfl, by simp [M.Digit] <;> omega⟩, rfl⟩)

set_option maxHeartbeats 1000000 in
theorem continuesName_any (c : Int) (w : World) (h0 : 0 ≤ c) (h1 : c ≤ 255) :
    Calls Try.prog 168 #[.int .u8 c] w (Says (M.Letter c ∨ M.Digit c) w) := by
  by_cases hl : M.Letter c
  · have HL : Hid (M.Letter c) := hl
    clear hl
    go_enter Try.func168, Try.ntmps168
    go_wp2_with (go_at_call 169; refine (beginsName_any c _ h0 h1).mono ?_; rintro e W ⟨⟨r, rfl, hr⟩, hw⟩; subst W; obtain rfl : r = true := hr.2 HL.out; clear hr)
    go_ret
    exact ⟨⟨true, rfl, iffT (.inl HL.out)⟩, rfl⟩
  · have HL : Hid (¬ M.Letter c) := hl
    clear hl
    rcases digit_cases c with h | ⟨h, h'⟩ | h
    all_goals (
      go_enter Try.func168, Try.ntmps168
      go_wp2_with (go_at_call 169; refine (beginsName_any c _ h0 h1).mono ?_; rintro e W ⟨⟨r, rfl, hr⟩, hw⟩; subst W; obtain rfl : r = false := by { cases r; rfl; exact absurd (hr.1 rfl) HL.out }; clear hr)
      go_ret
      exact ⟨⟨_, rfl, by simp [HL.out, M.Digit] <;> omega⟩, rfl⟩)

theorem kind_cases (k : Int) : k < 4 ∨ k = 4 ∨ k = 5 ∨ k = 6 ∨ k = 7 ∨ 7 < k := by omega

set_option maxHeartbeats 1000000 in
theorem operandsOf_any (k : Int) (w : World) :
    Calls Try.prog 172 #[.int .i64 k] w fun e w' => e = .returned (.int .i64 (M.ar k)) ∧ w = w' := by
  rcases kind_cases k with h | h | h | h | h | h
  all_goals (try subst h)
  all_goals (
    try (
      have e4 : (k == 4) = false := by simp; omega
      have e5 : (k == 5) = false := by simp; omega
      have e6 : (k == 6) = false := by simp; omega
      have e7 : (k == 7) = false := by simp; omega)
    go_enter Try.func172, Try.ntmps172
    go_wp2
    go_ret
    exact ⟨ret_int (by unfold M.ar; first | rfl | (rw [if_neg (by omega), if_neg (by omega)])), rfl⟩)

set_option maxHeartbeats 1000000 in
theorem l2arity_any (k : Int) (w : World) :
    Calls Try.prog 165 #[.int .i64 k] w fun e w' => e = .returned (.int .i64 (M.ar k)) ∧ w = w' := by
  rcases kind_cases k with h | h | h | h | h | h
  all_goals (try subst h)
  all_goals (
    try (
      have e4 : (k == 4) = false := by simp; omega
      have e5 : (k == 5) = false := by simp; omega
      have e6 : (k == 6) = false := by simp; omega
      have e7 : (k == 7) = false := by simp; omega)
    go_enter Try.func165, Try.ntmps165
    go_wp2
    go_ret
    exact ⟨ret_int (by unfold M.ar; first | rfl | (rw [if_neg (by omega), if_neg (by omega)])), rfl⟩)

end Go.Proofs.Ytjndcajblpgjmaa
