import Derived.Test.YteoddjobpmmgeaaGreatT01
import Derived.Deep.RegionWith
set_option linter.unusedVariables false
set_option linter.unusedSimpArgs false
namespace Go.Proofs.YteoddjobpmmgeaaGreat
section
open Go.RowKit
structure Tx where
  n : Nat
  T : Nat → Int
  byt : ∀ i, 0 ≤ T i ∧ T i ≤ 255
  le : n ≤ 1048576
def TxA (Q : Nat → Prop) (w : World) (a : Option Addr) (t : Tx) : Prop := Ints Q .u8 w a t.n t.T
theorem TxA.at {Q : Nat → Prop} {w : World} {a : Option Addr} {t : Tx} (h : TxA Q w a t) {i : Nat} (hi : i < t.n) : ∃ b off, a = some ⟨b, off, none⟩ ∧ Q b ∧ ∀ j, j < t.n → w.cell? ⟨b, off + j, none⟩ = some (.int .u8 (t.T j)) := by
  rcases h with h | h
  · omega
  · exact h
def hexv (c : Int) : Option Nat := if 48 ≤ c ∧ c ≤ 57 then some (c - 48).toNat else if 97 ≤ c ∧ c ≤ 102 then some (c - 87).toNat else if 65 ≤ c ∧ c ≤ 70 then some (c - 55).toNat else none
def hexi (c : Int) : Int := match hexv c with | some x => x | none => -1
def escP (c : Int) : Prop := c = 92 ∨ c = 34 ∨ c = 91 ∨ c = 93 ∨ c = 45 ∨ c = 94
instance (c : Int) : Decidable (escP c) := by unfold escP; infer_instance
def esc (t : Tx) (i : Nat) : Int × Nat :=
  if t.n ≤ i + 1 ∨ t.T i ≠ 92 then (0, 0)
  else if t.T (i + 1) = 110 then (10, 2)
  else if t.T (i + 1) = 116 then (9, 2)
  else if t.T (i + 1) = 114 then (13, 2)
  else if escP (t.T (i + 1)) then (t.T (i + 1), 2)
  else if t.T (i + 1) = 120 ∧ i + 3 < t.n ∧ 0 ≤ hexi (t.T (i + 2)) ∧ 0 ≤ hexi (t.T (i + 3)) then (hexi (t.T (i + 2)) * 16 + hexi (t.T (i + 3)), 4)
  else (0, 0)
def chr (t : Tx) (i : Nat) (cls : Bool) : Int × Nat :=
  if t.n ≤ i ∨ t.T i = 10 then (0, 0)
  else if t.T i = 92 then esc t i
  else if cls = true ∧ (t.T i = 93 ∨ t.T i = 45 ∨ t.T i = 94) then (0, 0)
  else if cls = false ∧ t.T i = 34 then (0, 0)
  else (t.T i, 1)
def eol (t : Tx) : Nat → Nat → Nat
  | 0, i => i
  | f + 1, i => if i < t.n ∧ t.T i ≠ 10 then eol t f (i + 1) else i
def wsP (c : Int) : Prop := c = 32 ∨ c = 9 ∨ c = 13 ∨ c = 10
instance (c : Int) : Decidable (wsP c) := by unfold wsP; infer_instance
def skp (t : Tx) : Nat → Nat → Nat
  | 0, i => i
  | f + 1, i => if i < t.n then (if wsP (t.T i) then skp t f (i + 1) else if t.T i = 35 then skp t f (eol t (t.n - i) i) else i) else i
def skip (t : Tx) (i : Nat) : Nat := skp t (t.n - i) i
theorem eol_ge (t : Tx) : ∀ f i, i ≤ eol t f i
  | 0, i => Nat.le_refl _
  | f + 1, i => by
    rw [eol]
    split
    · exact Nat.le_trans (Nat.le_succ i) (eol_ge t f (i + 1))
    · exact Nat.le_refl _
theorem eol_le (t : Tx) : ∀ f i, i ≤ t.n → eol t f i ≤ t.n
  | 0, i, h => h
  | f + 1, i, h => by
    rw [eol]
    split
    · exact eol_le t f (i + 1) (by omega)
    · exact h
theorem eol_fuel (t : Tx) : ∀ f g i, t.n - i ≤ f → t.n - i ≤ g → eol t f i = eol t g i
  | f, g, i, h, k => by
    by_cases hi : i < t.n
    · obtain ⟨f, rfl⟩ : ∃ q, f = q + 1 := ⟨f - 1, by omega⟩
      obtain ⟨g, rfl⟩ : ∃ q, g = q + 1 := ⟨g - 1, by omega⟩
      rw [eol, eol, eol_fuel t f g (i + 1) (by omega) (by omega)]
    · cases f <;> cases g <;> simp [eol, hi]
def eolE (t : Tx) (i : Nat) : Nat := eol t (t.n - i) i
theorem eolE_step (t : Tx) (i : Nat) : eolE t i = if i < t.n ∧ t.T i ≠ 10 then eolE t (i + 1) else i := by
  unfold eolE
  by_cases hi : i < t.n
  · rw [eol_fuel t (t.n - i) ((t.n - (i + 1)) + 1) i (by omega) (by omega), eol]
  · rw [show t.n - i = 0 by omega, if_neg (fun q => hi q.1), eol]
theorem eolE_gt (t : Tx) {i : Nat} (h : i < t.n) (h35 : t.T i = 35) : i < eolE t i ∧ eolE t i ≤ t.n := by
  rw [eolE_step, if_pos ⟨h, by omega⟩]
  exact ⟨eol_ge t _ (i + 1), eol_le t _ (i + 1) (by omega)⟩
theorem skp_fuel (t : Tx) : ∀ f g i, t.n - i ≤ f → t.n - i ≤ g → skp t f i = skp t g i
  | f, g, i, h, k => by
    by_cases hi : i < t.n
    · obtain ⟨f, rfl⟩ : ∃ q, f = q + 1 := ⟨f - 1, by omega⟩
      obtain ⟨g, rfl⟩ : ∃ q, g = q + 1 := ⟨g - 1, by omega⟩
      rw [skp, skp, if_pos hi, if_pos hi, skp_fuel t f g (i + 1) (by omega) (by omega)]
      by_cases h35 : t.T i = 35
      · have := eolE_gt t hi h35
        rw [skp_fuel t f g (eol t (t.n - i) i) (by unfold eolE at this; omega) (by unfold eolE at this; omega)]
      · simp [h35]
    · cases f <;> cases g <;> simp [skp, hi]
theorem skip_step (t : Tx) (i : Nat) : skip t i = if i < t.n then (if wsP (t.T i) then skip t (i + 1) else if t.T i = 35 then skip t (eolE t i) else i) else i := by
  unfold skip
  by_cases hi : i < t.n
  · rw [if_pos hi, skp_fuel t (t.n - i) ((t.n - (i + 1)) + 1) i (by omega) (by omega), skp, if_pos hi]
    by_cases h35 : t.T i = 35
    · have := eolE_gt t hi h35
      rw [show eol t (t.n - i) i = eolE t i from rfl, skp_fuel t (t.n - (i + 1)) (t.n - eolE t i) (eolE t i) (by omega) (by omega)]
    · simp [h35]
  · rw [if_neg hi, show t.n - i = 0 by omega, skp]
end
section
open Go.RowKit
def hexLo (k : Nat) : Int := if k < 10 then 48 + k else 87 + k
def hexUp (k : Nat) : Int := if k < 10 then 48 + k else 55 + k
theorem hexv_some {c : Int} {k : Nat} (hk : k < 16) (h : c = hexLo k ∨ c = hexUp k) : hexv c = some k := by
  unfold hexLo hexUp at h
  unfold hexv
  by_cases h10 : k < 10
  · simp only [if_pos h10, or_self] at h
    rw [if_pos (by omega)]
    congr 1; omega
  · simp only [if_neg h10] at h
    rcases h with h | h
    · rw [if_neg (by omega), if_pos (by omega)]
      congr 1; omega
    · rw [if_neg (by omega), if_neg (by omega), if_pos (by omega)]
      congr 1; omega
theorem hexv_is {c : Int} {k : Nat} (h : hexv c = some k) : k < 16 ∧ (c = hexLo k ∨ c = hexUp k) := by
  unfold hexv at h
  unfold hexLo hexUp
  by_cases h1 : 48 ≤ c ∧ c ≤ 57
  · rw [if_pos h1] at h
    injection h with h
    subst h
    refine ⟨by omega, .inl ?_⟩
    rw [if_pos (by omega)]; omega
  rw [if_neg h1] at h
  by_cases h2 : 97 ≤ c ∧ c ≤ 102
  · rw [if_pos h2] at h
    injection h with h
    subst h
    refine ⟨by omega, .inl ?_⟩
    rw [if_neg (by omega)]; omega
  rw [if_neg h2] at h
  by_cases h3 : 65 ≤ c ∧ c ≤ 70
  · rw [if_pos h3] at h
    injection h with h
    subst h
    refine ⟨by omega, .inr ?_⟩
    rw [if_neg (by omega)]; omega
  rw [if_neg h3] at h
  cases h
theorem hexi_some {c : Int} {k : Nat} (h : hexv c = some k) : hexi c = k := by unfold hexi; rw [h]
theorem hexi_none {c : Int} (h : hexv c = none) : hexi c = -1 := by unfold hexi; rw [h]
theorem hexi_le (c : Int) : -1 ≤ hexi c ∧ hexi c ≤ 15 := by
  cases h : hexv c with
  | none => rw [hexi_none h]; omega
  | some k => rw [hexi_some h]; have := (hexv_is h).1; omega
set_option maxHeartbeats 4000000 in
theorem l2hexval_any (c : Int) (w : World) (h0 : 0 ≤ c) (h1 : c ≤ 255) :
    Calls Tryz.prog 99 #[.int .u8 c] w fun e w' => e = .returned (.int .i64 (hexi c)) ∧ w' = w := by
  go_enter Tryz.func99, Tryz.ntmps99
  go_wp2
  go_loopw [5] (fun i wr => ∃ k : Nat, k ≤ 16 ∧ i = .int .i64 k ∧ wr = w ∧ ∀ x, hexv c = some x → k ≤ x) (fun i _ => 16 - (intOf i).toNat)
  case atStart => exact ⟨0, Nat.zero_le _, rfl, rfl, fun x _ => Nat.zero_le _⟩
  case round =>
    obtain ⟨k, hk, rfl, rfl, hx⟩ := hrel
    have HX : Hid (∀ x, hexv c = some x → k ≤ x) := hx
    clear hx
    by_cases hlt : k < 16
    · have HL : Hid (c = hexLo k ∨ c = hexUp k → hexi c = k) := fun h => hexi_some (hexv_some hlt h)
      have HN : Hid (c ≠ hexLo k → c ≠ hexUp k → ∀ x, hexv c = some x → k + 1 ≤ x) := fun h h' x hx => by
        have := HX.out x hx
        have := (hexv_is hx).2
        by_cases e : x = k
        · subst e
          exact absurd ‹_ ∨ _› (fun q => q.elim h h')
        · omega
      clear HX
      rcases (show k = 0 ∨ k = 1 ∨ k = 2 ∨ k = 3 ∨ k = 4 ∨ k = 5 ∨ k = 6 ∨ k = 7 ∨ k = 8 ∨ k = 9 ∨ k = 10 ∨ k = 11 ∨ k = 12 ∨ k = 13 ∨ k = 14 ∨ k = 15 by omega) with rfl | rfl | rfl | rfl | rfl | rfl | rfl | rfl | rfl | rfl | rfl | rfl | rfl | rfl | rfl | rfl
      all_goals (
        go_wp2
        all_goals (first
          | (go_ret
             rename_i h
             exact ⟨ret_int (HL.out (.inl (h.symm.trans rfl))).symm, rfl⟩)
          | (go_ret
             rename_i h
             exact ⟨ret_int (HL.out (h.elim (fun q => .inl ((eq_of_beq q).symm.trans rfl)) (fun q => .inr ((eq_of_beq q).symm.trans rfl)))).symm, rfl⟩)
          | (rename_i h
             refine ⟨⟨_, ?_, rfl, trivial, HN.out (fun q => ?_) (fun q => ?_)⟩, by simp [intOf]⟩
             · decide
             · subst q; exact absurd h.1 (by decide)
             · subst q; exact absurd h.2 (by decide))))
    · obtain rfl : k = 16 := by omega
      go_wp2
      go_ret
      refine ⟨ret_int ?_, rfl⟩
      cases h : hexv c with
      | none => exact (hexi_none h).symm
      | some x => have := HX.out x h; have := (hexv_is h).1; omega
end
section
open Go.RowKit
def RetII (x y : Int) (w : World) (e : Ending) (w' : World) : Prop := e = .returned (.tuple #[.int .i64 x, .int .i64 y]) ∧ ∃ m, w' = w.drewN m
theorem retII {x y : Int} {w : World} : RetII x y w (.returned (.tuple #[.int .i64 x, .int .i64 y])) w := ⟨rfl, 0, rfl⟩
theorem TxA.drew {Q : Nat → Prop} {t : Tx} {a : Option Addr} {w : World} (h : TxA Q w a t) (m : Nat) : TxA Q (w.drewN m) a t := Ints.later h (below_drewN (Below.refl _ w) m)
theorem wrapI {x : Int} (h : 0 ≤ x) (h' : x ≤ 4000000) : IntKind.i64.wrap x = x := by
  unfold IntKind.wrap
  have e1 : x % (2 ^ IntKind.i64.bits : Int) = x := Int.emod_eq_of_lt h (Int.lt_of_le_of_lt h' (by decide))
  have e2 : ¬ (x ≥ (2 ^ (IntKind.i64.bits - 1) : Int)) := fun q => absurd (Int.le_trans q h') (by decide)
  simp only [e1, e2, decide_false, Bool.and_false, if_neg, Bool.false_eq_true, not_false_iff]
set_option maxHeartbeats 400000 in
set_option maxRecDepth 100000 in
theorem l2escape_any (Q : Nat → Prop) (t : Tx) (a : Option Addr) (c i : Nat) (w : World) (hT : TxA Q w a t) (hi : i ≤ t.n) :
    Calls Tryz.prog 89 #[.slice a t.n c, .int .i64 i] w (RetII (esc t i).1 ((esc t i).2 : Nat) w) := by
  have hle := t.le
  unfold esc
  by_cases c0 : t.n ≤ i + 1
  · rw [if_pos (.inl c0)]
    have d0 : (t.n : Int) ≤ (i : Int) + 1 := by omega
    go_enter Tryz.func89, Tryz.ntmps89
    go_wp2
    go_ret2
    exact retII
  have d0 : ¬ (t.n : Int) ≤ (i : Int) + 1 := by omega
  obtain ⟨b, off, rfl, hq, hcell⟩ := hT.at (i := i) (by omega)
  have k0 := hcell i (by omega)
  have k1 := hcell (i + 1) (by omega)
  have b1 := t.byt (i + 1)
  by_cases c1 : t.T i = 92
  · rw [if_neg (by omega)]
    rw [c1] at k0
    have HC : Hid (∀ j, j < t.n → w.cell? ⟨b, off + j, none⟩ = some (.int .u8 (t.T j))) := hcell
    have HB : Hid (∀ i, 0 ≤ t.T i ∧ t.T i ≤ 255) := t.byt
    clear hcell hT
    generalize t.T (i + 1) = x at *
    by_cases x1 : x = 110
    · subst x1
      go_enter Tryz.func89, Tryz.ntmps89
      go_wp2
      go_ret2
      exact retII
    by_cases x2 : x = 116
    · subst x2
      go_enter Tryz.func89, Tryz.ntmps89
      go_wp2
      go_ret2
      exact retII
    by_cases x3 : x = 114
    · subst x3
      go_enter Tryz.func89, Tryz.ntmps89
      go_wp2
      go_ret2
      exact retII
    rw [if_neg x1, if_neg x2, if_neg x3]
    have x1' : (x == 110) = false := by simpa using x1
    have x2' : (x == 116) = false := by simpa using x2
    have x3' : (x == 114) = false := by simpa using x3
    by_cases x4 : escP x
    · rw [if_pos x4]
      rcases x4 with rfl | rfl | rfl | rfl | rfl | rfl
      all_goals (
        go_enter Tryz.func89, Tryz.ntmps89
        go_wp2
        go_ret2
        exact retII)
    rw [if_neg x4]
    obtain ⟨y1, y2, y3, y4, y5, y6⟩ : (x == 92) = false ∧ (x == 34) = false ∧ (x == 91) = false ∧ (x == 93) = false ∧ (x == 45) = false ∧ (x == 94) = false := by
      unfold escP at x4
      simp only [not_or] at x4
      simpa using x4
    clear x4
    by_cases x5 : x = 120
    · subst x5
      by_cases x6 : i + 3 < t.n
      · have x6' : (i : Int) + 3 < (t.n : Int) := by omega
        have x9 : (i : Int) + 2 < (t.n : Int) := by omega
        have v2 : IntKind.i64.wrap ((i : Int) + 2) = ((i + 2 : Nat) : Int) := (wrapI (by omega) (by omega)).trans (by omega)
        have v3 : IntKind.i64.wrap ((i : Int) + 3) = ((i + 3 : Nat) : Int) := (wrapI (by omega) (by omega)).trans (by omega)
        have v4 : (0 : Int) ≤ (i : Int) + 2 := by omega
        have v5 : (0 : Int) ≤ (i : Int) + 3 := by omega
        have v6 : ((i : Int) + 2).toNat = i + 2 := by omega
        have v7 : ((i : Int) + 3).toNat = i + 3 := by omega
        have k2 := HC.out (i + 2) (by omega)
        have k3 := HC.out (i + 3) (by omega)
        have b2 := HB.out (i + 2)
        have b3 := HB.out (i + 3)
        have HX2 : Hid (∀ w, Calls Tryz.prog 99 #[.int .u8 (t.T (i + 2))] w fun e w' => e = .returned (.int .i64 (hexi (t.T (i + 2)))) ∧ w' = w) := fun w => l2hexval_any _ w b2.1 b2.2
        have HX3 : Hid (∀ w, Calls Tryz.prog 99 #[.int .u8 (t.T (i + 3))] w fun e w' => e = .returned (.int .i64 (hexi (t.T (i + 3)))) ∧ w' = w) := fun w => l2hexval_any _ w b3.1 b3.2
        have z2 := hexi_le (t.T (i + 2))
        have z3 := hexi_le (t.T (i + 3))
        generalize hexi (t.T (i + 2)) = p at *
        generalize hexi (t.T (i + 3)) = q at *
        generalize t.T (i + 2) = u2 at *
        generalize t.T (i + 3) = u3 at *
        clear HC HB x1 x2 x3 x1' x2' x3' y1 y2 y3 y4 y5 y6 c1
        by_cases x7 : 0 ≤ p
        · by_cases x8 : 0 ≤ q
          · rw [if_pos ⟨rfl, x6, x7, x8⟩]
            go_enter Tryz.func89, Tryz.ntmps89
            go_wp2_with fail
            refine (HX2.out _).mono ?_
            rintro e W ⟨rfl, rfl⟩
            go_wp2_with fail
            refine (HX3.out _).mono ?_
            rintro e W ⟨rfl, rfl⟩
            go_wp2
            go_quiet (first | (go_at_call_of 99 (Value.int IntKind.u8 u2); exact Calls.quiet_of_same (HX2.out _)) | (go_at_call_of 99 (Value.int IntKind.u8 u3); exact Calls.quiet_of_same (HX3.out _)))
            go_wp2
            go_ret2
            exact ⟨rfl, _, rfl⟩
          · rw [if_neg (fun q => x8 q.2.2.2)]
            go_enter Tryz.func89, Tryz.ntmps89
            go_wp2_with fail
            refine (HX2.out _).mono ?_
            rintro e W ⟨rfl, rfl⟩
            go_wp2_with fail
            refine (HX3.out _).mono ?_
            rintro e W ⟨rfl, rfl⟩
            go_wp2
            go_ret2
            exact retII
        · rw [if_neg (fun q => x7 q.2.2.1)]
          go_enter Tryz.func89, Tryz.ntmps89
          go_wp2_with fail
          refine (HX2.out _).mono ?_
          rintro e W ⟨rfl, rfl⟩
          go_wp2
          go_ret2
          exact retII
      · rw [if_neg (fun q => x6 q.2.1)]
        have x6' : ¬ (i : Int) + 3 < (t.n : Int) := by omega
        go_enter Tryz.func89, Tryz.ntmps89
        go_wp2
        go_ret2
        exact retII
    · rw [if_neg (fun q => x5 q.1)]
      have x5' : (x == 120) = false := by simpa using x5
      go_enter Tryz.func89, Tryz.ntmps89
      go_wp2
      go_ret2
      exact retII
  · rw [if_pos (.inr c1)]
    have c1' : (t.T i == 92) = false := by simpa using c1
    go_enter Tryz.func89, Tryz.ntmps89
    go_wp2
    go_ret2
    exact retII
end
section
open Go.RowKit
set_option maxHeartbeats 1000000 in
set_option maxRecDepth 100000 in
theorem l2char_any (Q : Nat → Prop) (t : Tx) (a : Option Addr) (c i : Nat) (cls : Bool) (w : World) (hT : TxA Q w a t) (hi : i ≤ t.n) :
    Calls Tryz.prog 74 #[.slice a t.n c, .int .i64 i, .bool cls] w (RetII (chr t i cls).1 ((chr t i cls).2 : Nat) w) := by
  have hle := t.le
  unfold chr
  by_cases c0 : t.n ≤ i
  · rw [if_pos (.inl c0)]
    have d0 : (t.n : Int) ≤ (i : Int) := by omega
    go_enter Tryz.func74, Tryz.ntmps74
    go_wp2
    go_ret2
    exact retII
  have d0 : ¬ (t.n : Int) ≤ (i : Int) := by omega
  have HE : Hid (∀ w, TxA Q w a t → Calls Tryz.prog 89 #[.slice a t.n c, .int .i64 i] w (RetII (esc t i).1 ((esc t i).2 : Nat) w)) := fun w h => l2escape_any Q t a c i w h hi
  have HT : Hid (TxA Q w a t) := hT
  obtain ⟨b, off, rfl, hq, hcell⟩ := hT.at (i := i) (by omega)
  have k0 := hcell i (by omega)
  clear hT hcell
  have b0 := t.byt i
  generalize t.T i = x at *
  by_cases x1 : x = 10
  · subst x1
    rw [if_pos (.inr rfl)]
    go_enter Tryz.func74, Tryz.ntmps74
    go_wp2
    go_ret2
    exact retII
  have x1' : (x == 10) = false := by simpa using x1
  rw [if_neg (by omega)]
  by_cases x2 : x = 92
  · subst x2
    rw [if_pos rfl]
    generalize esc t i = r at *
    go_enter Tryz.func74, Tryz.ntmps74
    go_wp2_with fail
    refine (HE.out w HT.out).mono ?_
    rintro e W ⟨rfl, m, rfl⟩
    go_wp2
    go_ret2
    exact ⟨rfl, m, rfl⟩
  rw [if_neg x2]
  clear HE HT
  have x2' : (x == 92) = false := by simpa using x2
  cases cls with
  | true =>
    by_cases x3 : x = 93 ∨ x = 45 ∨ x = 94
    · rw [if_pos ⟨rfl, x3⟩]
      rcases x3 with rfl | rfl | rfl
      all_goals (
        go_enter Tryz.func74, Tryz.ntmps74
        go_wp2
        go_ret2
        exact retII)
    · rw [if_neg (fun q => x3 q.2), if_neg (fun q => Bool.noConfusion q.1)]
      obtain ⟨y1, y2, y3⟩ : (x == 93) = false ∧ (x == 45) = false ∧ (x == 94) = false := by
        simp only [not_or] at x3
        simpa using x3
      go_enter Tryz.func74, Tryz.ntmps74
      go_wp2
      go_ret2
      exact retII
  | false =>
    rw [if_neg (fun q => Bool.noConfusion q.1)]
    by_cases x3 : x = 34
    · subst x3
      rw [if_pos ⟨rfl, rfl⟩]
      go_enter Tryz.func74, Tryz.ntmps74
      go_wp2
      go_ret2
      exact retII
    · rw [if_neg (fun q => x3 q.2)]
      have y1 : (x == 34) = false := by simpa using x3
      go_enter Tryz.func74, Tryz.ntmps74
      go_wp2
      go_ret2
      exact retII
set_option maxHeartbeats 1000000 in
set_option maxRecDepth 100000 in
theorem l2skip_any (Q : Nat → Prop) (t : Tx) (a : Option Addr) (c i : Nat) (w : World) (hT : TxA Q w a t) (hi : i ≤ t.n) :
    Calls Tryz.prog 30 #[.slice a t.n c, .int .i64 i] w fun e w' => e = .returned (.int .i64 (skip t i : Nat)) ∧ w' = w := by
  have hle := t.le
  have HT : Hid (TxA Q w a t) := hT
  clear hT
  go_enter Tryz.func30, Tryz.ntmps30
  go_wp2
  go_loopw [1] (fun u wr => ∃ k : Nat, k ≤ t.n ∧ u = .int .i64 k ∧ wr = w ∧ skip t k = skip t i) (fun u _ => t.n - (intOf u).toNat)
  case atStart => exact ⟨i, hi, rfl, rfl, rfl⟩
  case round =>
    obtain ⟨k, hk, rfl, rfl, hs⟩ := hrel
    have HS : Hid (skip t k = skip t i) := hs
    have HP : Hid (skip t k = if k < t.n then (if wsP (t.T k) then skip t (k + 1) else if t.T k = 35 then skip t (eolE t k) else k) else k) := skip_step t k
    clear hs
    by_cases hlt : k < t.n
    · have hlt' : (k : Int) < t.n := by omega
      obtain ⟨b, off, rfl, hq, hcell⟩ := HT.out.at hlt
      have k0 := hcell k hlt
      have b0 := t.byt k
      have HG := eolE_gt t hlt
      have HC : Hid (∀ j, j < t.n → wr.cell? ⟨b, off + j, none⟩ = some (.int .u8 (t.T j))) := hcell
      clear hcell
      by_cases hw : wsP (t.T k)
      · have HN : Hid (skip t (k + 1) = skip t i) := by show _ = _; rw [← HS.out, HP.out, if_pos hlt, if_pos hw]
        clear HS HP HG HC
        generalize t.T k = x at *
        rcases hw with rfl | rfl | rfl | rfl
        all_goals (
          go_wp2
          go_roundw
          case rel => exact ⟨k + 1, hlt, by go_num, by trivial, HN.out⟩
          case measure => simp [intOf]; omega)
      by_cases h35 : t.T k = 35
      · have HN : Hid (skip t (eolE t k) = skip t i) := by show _ = _; rw [← HS.out, HP.out, if_pos hlt, if_neg hw, if_pos h35]
        have HG' : Hid (k < eolE t k ∧ eolE t k ≤ t.n) := HG h35
        clear HS HP HG hw
        rw [h35] at k0
        go_wp2
        go_loopw [1] (fun u w' => ∃ j : Nat, k ≤ j ∧ j ≤ t.n ∧ u = .int .i64 j ∧ w' = wr ∧ eolE t j = eolE t k) (fun u _ => t.n - (intOf u).toNat)
        case atStart => exact ⟨k, Nat.le_refl _, hk, rfl, rfl, rfl⟩
        case round =>
          obtain ⟨j, hkj, hj, rfl, rfl, hs⟩ := hrel
          have HS : Hid (eolE t j = eolE t k) := hs
          have HP : Hid (eolE t j = if j < t.n ∧ t.T j ≠ 10 then eolE t (j + 1) else j) := eolE_step t j
          clear hs
          by_cases hjl : j < t.n
          · have hjl' : (j : Int) < t.n := by omega
            have k1 := HC.out j hjl
            have b1 := t.byt j
            by_cases h10 : t.T j = 10
            · have HE : Hid (j = eolE t k) := by show _ = _; rw [← HS.out, HP.out, if_neg (fun q => q.2 h10)]
              rw [h10] at k1
              clear HS HP
              go_wp2
              go_roundw
              case rel => exact ⟨j, hj, rfl, by trivial, by rw [HE.out]; exact HN.out⟩
              case measure => have := HE.out; have := HG'.out; simp [intOf]; omega
            · have HE : Hid (eolE t (j + 1) = eolE t k) := by show _ = _; rw [← HS.out, HP.out, if_pos ⟨hjl, h10⟩]
              have y1 : (t.T j == 10) = false := by simpa using h10
              clear HS HP
              go_wp2
              go_roundw
              case rel => exact ⟨j + 1, by omega, hjl, by go_num, by trivial, HE.out⟩
              case measure => simp [intOf]; omega
          · have HE : Hid (j = eolE t k) := by show _ = _; rw [← HS.out, HP.out, if_neg (fun q => hjl q.1)]
            clear HS HP
            have hjl' : ¬ (j : Int) < t.n := by omega
            go_wp2
            go_roundw
            case rel => exact ⟨j, hj, rfl, by trivial, by rw [HE.out]; exact HN.out⟩
            case measure => have := HE.out; have := HG'.out; simp [intOf]; omega
      · obtain ⟨y1, y2, y3, y4⟩ : (t.T k == 32) = false ∧ (t.T k == 9) = false ∧ (t.T k == 13) = false ∧ (t.T k == 10) = false := by
          unfold wsP at hw
          simp only [not_or] at hw
          simpa using hw
        have y5 : (t.T k == 35) = false := by simpa using h35
        have HN : Hid (k = skip t i) := by show _ = _; rw [← HS.out, HP.out, if_pos hlt, if_neg hw, if_neg h35]
        clear HS HP HG HC hw
        go_wp2
        go_ret
        exact ⟨ret_int (by rw [← HN.out]), rfl⟩
    · obtain rfl : k = t.n := by omega
      have HN : Hid (t.n = skip t i) := by show _ = _; rw [← HS.out, HP.out, if_neg hlt]
      clear HS HP
      go_wp2
      go_ret
      exact ⟨ret_int (by rw [← HN.out]), rfl⟩
end
end Go.Proofs.YteoddjobpmmgeaaGreat
