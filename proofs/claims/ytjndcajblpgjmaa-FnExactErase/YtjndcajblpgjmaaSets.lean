/-
  Walks: canonical sets.
-/
import Derived.Test.YtjndcajblpgjmaaSmall
namespace Go.Proofs.Ytjndcajblpgjmaa
open Go.RowKit
set_option linter.unusedVariables false

theorem odd_rem (n : Nat) (h : n % 2 = 1) : ((n : Int) % 2 != 0) = true := by
  have : (n : Int) % 2 = 1 := by omega
  rw [this]; decide
theorem even_rem (n : Nat) (h : n % 2 = 0) : ((n : Int) % 2 != 0) = false := by
  have : (n : Int) % 2 = 0 := by omega
  rw [this]; decide
theorem rem1_t (n : Nat) (h : n % 2 = 1) : ((n : Int) % 2 == 1) = true := by
  have : (n : Int) % 2 = 1 := by omega
  rw [this]; decide
theorem rem1_f (n : Nat) (h : n % 2 = 0) : ((n : Int) % 2 == 1) = false := by
  have : (n : Int) % 2 = 0 := by omega
  rw [this]; decide
theorem rem0_t (n : Nat) (h : n % 2 = 0) : ((n : Int) % 2 == 0) = true := by
  have : (n : Int) % 2 = 0 := by omega
  rw [this]; decide
theorem rem0_f (n : Nat) (h : n % 2 = 1) : ((n : Int) % 2 == 0) = false := by
  have : (n : Int) % 2 = 1 := by omega
  rw [this]; decide

theorem least_next (S : Nat → Int) (k : Nat) : M.least S (k + 1) = S (2 * k + 1) + 2 := by
  unfold M.least; rw [if_neg (by omega), show 2 * (k + 1) - 1 = 2 * k + 1 by omega]
theorem val_int {k : IntKind} {a b : Int} (h : a = b) : Value.int k a = .int k b := by rw [h]
theorem canon_all (n : Nat) (S : Nat → Int) (k : Nat) (h : 2 * k = n) (hp : ∀ j, j < k → M.PairOK S j) : M.Canon n S :=
  ⟨by omega, fun i hi => (M.pairs_canon S k).1 hp i (by omega)⟩
theorem canon_not (n : Nat) (S : Nat → Int) (k : Nat) (h : 2 * k < n) (hp : ¬ M.PairOK S k) : ¬ M.Canon n S := fun q =>
  hp ((M.pairs_canon S (n / 2)).2 (fun i hi => q.2 i (by omega)) k (by have := q.1; omega))

def pairsI (w : World) (n : Nat) (S : Nat → Int) (l i : Value) (wr : World) : Prop :=
  ∃ k d : Nat, 2 * k ≤ n ∧ l = .int .i64 (M.least S k) ∧ i = .int .i64 ((2 * k : Nat) : Int) ∧ wr = w.drewN d ∧ (∀ j, j < k → M.PairOK S j) ∧ 0 ≤ M.least S k ∧ M.least S k ≤ 257

set_option maxHeartbeats 1000000 in
theorem isCanonical_any (Q : Nat → Prop) (a : Option Addr) (n c : Nat) (S : Nat → Int) (w : World) (hS : Ints Q .i64 w a n S) (hn : n ≤ 1048576) :
    Calls Try.prog 201 #[.slice a n c] w (SaysB (M.Canon n S) w) := by
  rcases (Nat.mod_two_eq_zero_or_one n).symm with he | he
  · have t := odd_rem n he
    go_enter Try.func201, Try.ntmps201
    go_wp2
    go_ret
    exact ⟨⟨false, rfl, iffF fun q => by have := q.1; omega⟩, Below.refl _ _⟩
  have t := even_rem n he
  go_enter Try.func201, Try.ntmps201
  go_wp2
  go_loopw [3, 4] (fun l i wr => pairsI w n S l i wr) (fun l i _ => n - (intOf i).toNat)
  case atStart => exact ⟨0, 0, by omega, rfl, rfl, rfl, fun j hj => absurd hj (Nat.not_lt_zero _), by simp [M.least], by simp [M.least]⟩
  case round =>
    obtain ⟨k, d, hk, rfl, rfl, rfl, hall, hl0, hl1⟩ := hrel
    have HA : Hid (∀ j, j < k → M.PairOK S j) := hall
    clear hall
    by_cases hlt : 2 * k < n
    · rcases hS with h0 | ⟨b, off, rfl, hq, hS⟩
      · omega
      have hc1 := hS (2 * k) hlt
      have hc2 := hS (2 * k + 1) (by omega)
      have i1 : ((2 * k + 1 : Nat) : Int) = ((2 * k : Nat) : Int) + 1 := by omega
      have lt1 : ((2 * k : Nat) : Int) < (n : Int) := by omega
      have lt2 : ((2 * k : Nat) : Int) + 1 < (n : Int) := by omega
      by_cases c1 : S (2 * k) < M.least S k
      · go_wp2_with fail
        go_quiet (fail)
        go_wp2
        go_ret
        exact ⟨⟨false, rfl, iffF (canon_not n S k hlt fun q => by have := q.1; omega)⟩, by first | exact below_drewN (Below.refl _ _) _ | exact below_drewN (below_drewN (Below.refl _ _) _) _ | exact below_drewN (below_drewN (below_drewN (Below.refl _ _) _) _) _⟩
      by_cases c2 : S (2 * k + 1) < S (2 * k)
      · go_wp2_with fail
        go_quiet (fail)
        go_wp2
        go_ret
        exact ⟨⟨false, rfl, iffF (canon_not n S k hlt fun q => by have := q.2.1; omega)⟩, by first | exact below_drewN (Below.refl _ _) _ | exact below_drewN (below_drewN (Below.refl _ _) _) _ | exact below_drewN (below_drewN (below_drewN (Below.refl _ _) _) _) _⟩
      by_cases c3 : 255 < S (2 * k + 1)
      · go_wp2_with fail
        go_quiet (fail)
        go_wp2
        go_ret
        exact ⟨⟨false, rfl, iffF (canon_not n S k hlt fun q => by have := q.2.2; omega)⟩, by first | exact below_drewN (Below.refl _ _) _ | exact below_drewN (below_drewN (Below.refl _ _) _) _ | exact below_drewN (below_drewN (below_drewN (Below.refl _ _) _) _) _⟩
      go_wp2_with fail
      go_quiet (fail)
      go_wp2
      go_roundw
      case rel =>
        refine ⟨k + 1, _, by omega, val_int (least_next S k).symm, by go_num, rfl, fun j hj => ?_, ?_, ?_⟩
        · by_cases e : j = k
          · subst e; exact ⟨by omega, by omega, by omega⟩
          · exact HA.out j (by omega)
        · rw [least_next]; omega
        · rw [least_next]; omega
      case measure => simp [intOf]; omega
    · have e2 : 2 * k = n := by omega
      have HE : Hid (2 * k = n) := e2
      have nlt : ¬ ((2 * k : Nat) : Int) < (n : Int) := by omega
      clear e2
      go_wp2
      go_ret
      exact ⟨⟨true, rfl, iffT (canon_all n S k HE.out HA.out)⟩, by first | exact below_drewN (Below.refl _ _) _ | exact below_drewN (below_drewN (Below.refl _ _) _) _ | exact below_drewN (below_drewN (below_drewN (Below.refl _ _) _) _) _⟩


def canonI (w : World) (n : Nat) (S : Nat → Int) (i : Value) (wr : World) : Prop :=
  ∃ k d : Nat, k ≤ n ∧ i = .int .i64 (k : Int) ∧ wr = w.drewN d ∧ ∀ j, j < k → M.CanAt S j
theorem not_canon {n : Nat} {S : Nat → Int} {k : Nat} (hk : k < n) (h : ¬ M.CanAt S k) : ¬ M.Canon n S := fun q => h (q.2 k hk)

set_option maxHeartbeats 2000000 in
theorem l2canon_any (Q : Nat → Prop) (a : Option Addr) (n c : Nat) (S : Nat → Int) (w : World) (hS : Ints Q .i64 w a n S) (hn : n ≤ 1048576) :
    Calls Try.prog 112 #[.slice a n c] w (SaysB (M.Canon n S) w) := by
  rcases (Nat.mod_two_eq_zero_or_one n).symm with he | he
  · have t := odd_rem n he
    go_enter Try.func112, Try.ntmps112
    go_wp2
    go_ret
    exact ⟨⟨false, rfl, iffF fun q => by have := q.1; omega⟩, Below.refl _ _⟩
  have t := even_rem n he
  go_enter Try.func112, Try.ntmps112
  go_wp2
  go_loopw [3] (fun i wr => canonI w n S i wr) (fun i _ => n - (intOf i).toNat)
  case atStart => exact ⟨0, 0, by omega, rfl, rfl, fun j hj => absurd hj (Nat.not_lt_zero _)⟩
  case round =>
    obtain ⟨k, d, hk, rfl, rfl, hall⟩ := hrel
    have HA : Hid (∀ j, j < k → M.CanAt S j) := hall
    clear hall
    by_cases hlt : k < n
    · rcases hS with h0 | ⟨b, off, rfl, hq, hS⟩
      · omega
      have hc1 := hS k hlt
      have lt1 : (k : Int) < (n : Int) := by omega
      by_cases c1 : S k < 0
      · go_wp2
        go_ret
        exact ⟨⟨false, rfl, iffF (not_canon hlt fun q => by have := q.1; omega)⟩, by first | exact below_drewN (Below.refl _ _) _ | exact below_drewN (below_drewN (Below.refl _ _) _) _ | exact below_drewN (below_drewN (below_drewN (Below.refl _ _) _) _) _⟩
      by_cases c2 : 255 < S k
      · go_wp2
        go_ret
        exact ⟨⟨false, rfl, iffF (not_canon hlt fun q => by have := q.2.1; omega)⟩, by first | exact below_drewN (Below.refl _ _) _ | exact below_drewN (below_drewN (Below.refl _ _) _) _ | exact below_drewN (below_drewN (below_drewN (Below.refl _ _) _) _) _⟩
      by_cases hz : k = 0
      · subst hz
        rw [Nat.add_zero] at hc1
        go_wp2_with fail
        go_quiet (fail)
        go_wp2_with fail
        go_quiet (fail)
        go_wp2
        go_roundw
        case rel =>
          refine ⟨1, _, by omega, by go_num, rfl, fun j hj => ?_⟩
          obtain rfl : j = 0 := by omega
          exact ⟨by omega, by omega, fun h => by omega, fun h => by omega⟩
        case measure => simp [intOf]; omega
      obtain ⟨p, hp1⟩ : ∃ p, k = p + 1 := ⟨k - 1, by omega⟩
      have HP : Hid (k = p + 1) := hp1
      have hkp : (0 : Int) < (k : Int) := by omega
      have hkn : 0 < k := by omega
      have hc0 := hS p (by have := HP.out; omega)
      have hp := HA.out p (by have := HP.out; omega)
      have b0 := hp.1
      have b1 := hp.2.1
      clear hp
      have em : (k : Int) - 1 = (p : Int) := by omega
      clear hp1
      rcases Nat.mod_two_eq_zero_or_one k with hm | hm
      · have m1 := rem1_f k hm
        have m0 := rem0_t k hm
        by_cases c3 : S k < S p + 2
        · go_wp2_with fail
          go_quiet (fail)
          go_wp2_with fail
          go_quiet (fail)
          go_wp2
          go_ret
          exact ⟨⟨false, rfl, iffF (not_canon hlt fun q => by have := q.2.2.2 ⟨by omega, hm⟩; rw [HP.out] at this c3; simp at this; omega)⟩, by first | exact below_drewN (Below.refl _ _) _ | exact below_drewN (below_drewN (Below.refl _ _) _) _ | exact below_drewN (below_drewN (below_drewN (Below.refl _ _) _) _) _⟩
        · go_wp2_with fail
          go_quiet (fail)
          go_wp2_with fail
          go_quiet (fail)
          go_wp2
          go_roundw
          case rel =>
            refine ⟨k + 1, _, by omega, by go_num, rfl, fun j hj => ?_⟩
            by_cases e : j = k
            · subst j; exact ⟨by omega, by omega, fun h => by omega, fun h => by rw [HP.out] at c3 ⊢; simp; omega⟩
            · exact HA.out j (by omega)
          case measure => simp [intOf]; omega
      · have m1 := rem1_t k hm
        have m0 := rem0_f k hm
        by_cases c3 : S k < S p
        · go_wp2_with fail
          go_quiet (fail)
          go_wp2
          go_ret
          exact ⟨⟨false, rfl, iffF (not_canon hlt fun q => by have := q.2.2.1 hm; rw [HP.out] at this c3; simp at this; omega)⟩, by first | exact below_drewN (Below.refl _ _) _ | exact below_drewN (below_drewN (Below.refl _ _) _) _ | exact below_drewN (below_drewN (below_drewN (Below.refl _ _) _) _) _⟩
        · go_wp2_with fail
          go_quiet (fail)
          go_wp2_with fail
          go_quiet (fail)
          go_wp2
          go_roundw
          case rel =>
            refine ⟨k + 1, _, by omega, by go_num, rfl, fun j hj => ?_⟩
            by_cases e : j = k
            · subst j; exact ⟨by omega, by omega, fun h => by rw [HP.out] at c3 ⊢; simp; omega, fun h => by omega⟩
            · exact HA.out j (by omega)
          case measure => simp [intOf]; omega
    · obtain rfl : k = n := by omega
      go_wp2
      go_ret
      exact ⟨⟨true, rfl, iffT ⟨he, HA.out⟩⟩, by first | exact below_drewN (Below.refl _ _) _ | exact below_drewN (below_drewN (Below.refl _ _) _) _ | exact below_drewN (below_drewN (below_drewN (Below.refl _ _) _) _) _⟩

end Go.Proofs.Ytjndcajblpgjmaa
