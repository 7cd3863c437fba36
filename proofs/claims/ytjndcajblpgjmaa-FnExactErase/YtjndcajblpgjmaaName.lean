/-
  Walks: names.
-/
import Derived.Test.YtjndcajblpgjmaaSmall
namespace Go.Proofs.Ytjndcajblpgjmaa
open Go.RowKit
set_option linter.unusedVariables false

theorem NameB_iff (n : Nat) (T : Nat → Int) (h : ∀ i, i < n → M.Letter (T i) ∨ M.Digit (T i)) : M.NameB n T ↔ 0 < n ∧ M.Letter (T 0) :=
  ⟨fun q => q.2, fun q => ⟨h, q⟩⟩

set_option maxHeartbeats 1000000 in
theorem isName_any (Q : Nat → Prop) (a : Option Addr) (n c : Nat) (T : Nat → Int) (w : World) (hT : Ints Q .u8 w a n T) (hb : ∀ i, i < n → 0 ≤ T i ∧ T i ≤ 255) (hn : n ≤ 1048576) :
    Calls Try.prog 117 #[.slice a n c] w (Says (M.NameB n T) w) := by
  go_enter Try.func117, Try.ntmps117
  go_wp2
  go_loopw [7] (fun i wr => ∃ k : Nat, k ≤ n ∧ i = .int .i64 k ∧ wr = w ∧ ∀ j, j < k → M.Letter (T j) ∨ M.Digit (T j)) (fun i _ => n - (intOf i).toNat)
  case atStart => exact ⟨0, Nat.zero_le _, rfl, rfl, fun j hj => absurd hj (Nat.not_lt_zero _)⟩
  case round =>
    obtain ⟨k, hk, rfl, rfl, hall⟩ := hrel
    have HA : Hid (∀ j, j < k → M.Letter (T j) ∨ M.Digit (T j)) := hall
    clear hall
    by_cases hlt : k < n
    · rcases hT with h0 | ⟨b, off, rfl, hq, hT⟩
      · omega
      have hc1 := hT k hlt
      obtain ⟨x0, x1⟩ := hb k hlt
      by_cases hl : M.Letter (T k) ∨ M.Digit (T k)
      · have HL : Hid (M.Letter (T k) ∨ M.Digit (T k)) := hl
        clear hl
        go_wp2_with (go_at_call 168; refine (continuesName_any (T k) _ x0 x1).mono ?_; rintro e W ⟨⟨r, rfl, hr⟩, hw⟩; subst W; obtain rfl : r = true := hr.2 HL.out; clear hr)
        go_roundw
        case rel => exact ⟨k + 1, by omega, by go_num, by trivial, fun j hj => if e : j = k then e ▸ HL.out else HA.out j (by omega)⟩
        case measure => simp [intOf]; omega
      · have HL : Hid (¬ (M.Letter (T k) ∨ M.Digit (T k))) := hl
        clear hl
        go_wp2_with (go_at_call 168; refine (continuesName_any (T k) _ x0 x1).mono ?_; rintro e W ⟨⟨r, rfl, hr⟩, hw⟩; subst W; obtain rfl : r = false := by { cases r; rfl; exact absurd (hr.1 rfl) HL.out }; clear hr)
        go_ret
        exact ⟨⟨false, rfl, iffF fun q => HL.out (q.1 k hlt)⟩, rfl⟩
    · obtain rfl : k = n := by omega
      by_cases h0 : k = 0
      · subst h0
        go_wp2
        go_ret
        exact ⟨⟨false, rfl, iffF fun q => by have := q.2.1; omega⟩, rfl⟩
      · rcases hT with h0' | ⟨b, off, rfl, hq, hT⟩
        · omega
        have hc1 := hT 0 (by omega)
        rw [Nat.add_zero] at hc1
        obtain ⟨x0, x1⟩ := hb 0 (by omega)
        have hpos : (0 : Int) < (k : Int) := by omega
        go_wp2_with (go_at_call 169; refine (beginsName_any (T 0) _ x0 x1).mono ?_; rintro e W ⟨⟨r, rfl, hr⟩, hw⟩; subst W; have HR : Hid _ := hr; clear hr)
        go_ret
        exact ⟨⟨_, rfl, HR.out.trans ⟨fun q => ⟨HA.out, by omega, q⟩, fun q => q.2.2⟩⟩, rfl⟩

theorem NameOK_iff (n : Nat) (T : Nat → Int) (h0 : 0 < n) (h1 : n ≤ 32) (h2 : M.Letter (T 0)) : M.NameOK n T ↔ ∀ i, i < n → M.Letter (T i) ∨ M.Digit (T i) :=
  ⟨fun q => q.2.1, fun q => ⟨h1, q, h0, h2⟩⟩

set_option maxHeartbeats 1000000 in
theorem l2name_any (Q : Nat → Prop) (a : Option Addr) (n c : Nat) (T : Nat → Int) (w : World) (hT : Ints Q .u8 w a n T) (hb : ∀ i, i < n → 0 ≤ T i ∧ T i ≤ 255) (hn : n ≤ 1048576) :
    Calls Try.prog 52 #[.slice a n c] w (Says (M.NameOK n T) w) := by
  by_cases h0 : n = 0
  · subst h0
    go_enter Try.func52, Try.ntmps52
    go_wp2
    go_ret
    exact ⟨⟨false, rfl, iffF fun q => by have := q.2.2.1; omega⟩, rfl⟩
  have t1 : ¬ (n : Int) < 1 := by omega
  by_cases h32 : 32 < n
  · have t2 : (32 : Int) < n := by omega
    go_enter Try.func52, Try.ntmps52
    go_wp2
    go_ret
    exact ⟨⟨false, rfl, iffF fun q => by have := q.1; omega⟩, rfl⟩
  have t2 : ¬ (32 : Int) < n := by omega
  rcases hT with h0' | ⟨b, off, rfl, hq, hT⟩
  · omega
  have hc0 := hT 0 (by omega)
  rw [Nat.add_zero] at hc0
  obtain ⟨y0, y1⟩ := hb 0 (by omega)
  have hpos : (0 : Int) < (n : Int) := by omega
  rcases Classical.em (¬ M.Letter (T 0)) with hl0 | hl0
  · have HL : Hid (¬ M.Letter (T 0)) := hl0
    clear hl0
    go_enter Try.func52, Try.ntmps52
    go_wp2_with (go_at_call 110; refine (l2letter_any (T 0) _ y0 y1).mono ?_; rintro e W ⟨⟨r, rfl, hr⟩, hw⟩; subst W; obtain rfl : r = false := by { cases r; rfl; exact absurd (hr.1 rfl) HL.out }; clear hr)
    go_ret
    exact ⟨⟨false, rfl, iffF fun q => HL.out q.2.2.2⟩, rfl⟩
  have HL0 : Hid (M.Letter (T 0)) := Classical.not_not.1 hl0
  clear hl0
  go_enter Try.func52, Try.ntmps52
  go_wp2_with (go_at_call 110; refine (l2letter_any (T 0) _ y0 y1).mono ?_; rintro e W ⟨⟨r, rfl, hr⟩, hw⟩; subst W; obtain rfl : r = true := hr.2 HL0.out; clear hr)
  go_loopw [3] (fun i wr => ∃ k : Nat, k ≤ n ∧ i = .int .i64 k ∧ wr = w ∧ ∀ j, j < k → M.Letter (T j) ∨ M.Digit (T j)) (fun i _ => n - (intOf i).toNat)
  case atStart => exact ⟨0, Nat.zero_le _, rfl, rfl, fun j hj => absurd hj (Nat.not_lt_zero _)⟩
  case round =>
    obtain ⟨k, hk, rfl, rfl, hall⟩ := hrel
    have HA : Hid (∀ j, j < k → M.Letter (T j) ∨ M.Digit (T j)) := hall
    clear hall
    by_cases hlt : k < n
    · have hc1 := hT k hlt
      obtain ⟨x0, x1⟩ := hb k hlt
      by_cases hl : M.Letter (T k)
      · have HL : Hid (M.Letter (T k)) := hl
        clear hl
        go_wp2_with (go_at_call 110; refine (l2letter_any (T k) _ x0 x1).mono ?_; rintro e W ⟨⟨r, rfl, hr⟩, hw⟩; subst W; obtain rfl : r = true := hr.2 HL.out; clear hr)
        go_roundw
        case rel => exact ⟨k + 1, by omega, by go_num, by trivial, fun j hj => if e : j = k then e ▸ .inl HL.out else HA.out j (by omega)⟩
        case measure => simp [intOf]; omega
      have HL : Hid (¬ M.Letter (T k)) := hl
      clear hl
      by_cases hd : M.Digit (T k)
      · have HD : Hid (M.Digit (T k)) := hd
        clear hd
        go_wp2_with (first | (go_at_call 110; refine (l2letter_any (T k) _ x0 x1).mono ?_; rintro e W ⟨⟨r, rfl, hr⟩, hw⟩; subst W; obtain rfl : r = false := by { cases r; rfl; exact absurd (hr.1 rfl) HL.out }; clear hr) | (go_at_call 111; refine (l2digit_any (T k) _ x0 x1).mono ?_; rintro e W ⟨⟨r, rfl, hr⟩, hw⟩; subst W; obtain rfl : r = true := hr.2 HD.out; clear hr))
        go_roundw
        case rel => exact ⟨k + 1, by omega, by go_num, by trivial, fun j hj => if e : j = k then e ▸ .inr HD.out else HA.out j (by omega)⟩
        case measure => simp [intOf]; omega
      · have HD : Hid (¬ M.Digit (T k)) := hd
        clear hd
        go_wp2_with (first | (go_at_call 110; refine (l2letter_any (T k) _ x0 x1).mono ?_; rintro e W ⟨⟨r, rfl, hr⟩, hw⟩; subst W; obtain rfl : r = false := by { cases r; rfl; exact absurd (hr.1 rfl) HL.out }; clear hr) | (go_at_call 111; refine (l2digit_any (T k) _ x0 x1).mono ?_; rintro e W ⟨⟨r, rfl, hr⟩, hw⟩; subst W; obtain rfl : r = false := by { cases r; rfl; exact absurd (hr.1 rfl) HD.out }; clear hr))
        go_ret
        exact ⟨⟨false, rfl, iffF fun q => (q.2.1 k hlt).elim HL.out HD.out⟩, rfl⟩
    · obtain rfl : k = n := by omega
      go_wp2
      go_ret
      exact ⟨⟨true, rfl, iffT ((NameOK_iff _ _ (by omega) (by omega) HL0.out).2 HA.out)⟩, rfl⟩

end Go.Proofs.Ytjndcajblpgjmaa
