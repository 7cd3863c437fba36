/-
  Walks: a body is an expression.
-/
import Derived.Test.YtjndcajblpgjmaaElem
namespace Go.Proofs.Ytjndcajblpgjmaa
open Go.RowKit
open M (OpD NodeD Gr)
set_option linter.unusedVariables false

def exprI (W1 : World) (n nr nb : Nat) (B : Nat → OpD) (d i : Value) (wr : World) : Prop :=
  ∃ k : Nat, k ≤ n ∧ d = .int .i64 (M.dep B k) ∧ i = .int .i64 (k : Int) ∧ Below W1.heap.size W1 wr ∧ ∀ j, j < k → M.ElemOK nr nb (B j) ∧ M.ar (B j).kind ≤ M.dep B j

def SmallB (n : Nat) (B : Nat → OpD) : Prop := n ≤ 1048576 ∧ ∀ i, i < n → (B i).sl ≤ 1048576

theorem body_iff (nr nb n : Nat) (B : Nat → OpD) (h : ∀ j, j < n → M.ElemOK nr nb (B j) ∧ M.ar (B j).kind ≤ M.dep B j) : M.BodyOK nr nb n B ↔ M.dep B n = 1 :=
  ⟨fun q => q.2.2, fun q => ⟨fun i hi => (h i hi).1, fun i hi => (h i hi).2, q⟩⟩

set_option maxHeartbeats 2000000 in
theorem isExpression_any (Q : Nat → Prop) (ra la a : Option Addr) (nr rc nb lc n c : Nat) (B : Nat → OpD) (w : World) (hB : OpsA Q w a n B) (h1 : nr ≤ 1048576) (h2 : nb ≤ 1048576) (h3 : SmallB n B) :
    Calls Try.prog 119 #[.agg #[.slice ra nr rc, .slice la nb lc], .slice a n c] w (SaysB (M.BodyOK nr nb n B) w) := by
  obtain ⟨hn, hsl⟩ := h3
  have HB : Hid (OpsA Q w a n B) := hB
  have HSL : Hid (∀ i, i < n → (B i).sl ≤ 1048576) := hsl
  clear hB hsl
  go_enter Try.func119, Try.ntmps119
  go_wp2
  go_loopw [5, 10] (fun d i wr => exprI (w.alloc (.cells #[.slice ra nr rc, .slice la nb lc] 36)) n nr nb B d i wr) (fun d i _ => n - (intOf i).toNat)
  case atStart => exact ⟨0, Nat.zero_le _, rfl, rfl, Below.refl _ _, fun j hj => absurd hj (Nat.not_lt_zero _)⟩
  case round =>
    obtain ⟨k, hk, rfl, rfl, hbel, hall⟩ := hrel
    have bd := M.dep_bd B n k hk (fun j hj => (hall j hj).2)
    have HA : Hid (∀ j, j < k → M.ElemOK nr nb (B j) ∧ M.ar (B j).kind ≤ M.dep B j) := hall
    clear hall
    have hbw : Below w.heap.size w wr := bel_tr (bel1 w _) hbel
    by_cases hlt : k < n
    · have hB := HB.out.later hbw
      rcases hB with h0 | ⟨b, off, rfl, hq, hB⟩
      · omega
      obtain ⟨c0, ⟨sa, sc, c1, hs⟩, c2⟩ := hB k hlt
      have hsl := HSL.out k hlt
      have g0 : wr.cell? ⟨w.heap.size, 0, none⟩ = some (.slice ra nr rc) := cell_on (by simp) hbel
      have g1 : wr.cell? ⟨w.heap.size, 1, none⟩ = some (.slice la nb lc) := cell_on (by simp) hbel
      have hsz : w.heap.size < wr.heap.size := by have := hbel.size; simp at this; omega
      have hbl : b < wr.heap.size := lt_of_cell c0
      have har := M.ar_bd (B k).kind
      have HST : Hid (M.dep B (k + 1) = M.dep B k + (1 - M.ar (B k).kind)) := rfl
      have HBW : Hid (Below w.heap.size w wr) := hbw
      have HBE : Hid _ := hbel
      have HS : Hid (Ints Q .i64 wr sa (B k).sl (B k).set) := hs
      clear hB hbw hbel hs
      by_cases he : M.ElemOK nr nb (B k)
      · have HE : Hid (M.ElemOK nr nb (B k)) := he
        clear he
        by_cases hd : M.dep B k < M.ar (B k).kind
        · go_wp2_with (first | (go_at_call 171; refine (validElement_any Q ra la sa nr rc nb lc (B k).sl sc (B k).set (B k).kind (B k).arg _ (HS.out.later (bel1 wr _)) h1 h2 hsl).mono ?_; rintro e W ⟨⟨r, rfl, hr⟩, hb⟩; obtain rfl : r = true := hr.2 HE.out; have gk := (cell_on (a := ⟨wr.heap.size, 0, none⟩) (v := .int .i64 (B k).kind) (by simp) hb); have HW : Hid _ := hb; clear hr hb) | (go_at_call 172; refine (operandsOf_any _ _).mono ?_; rintro e W' ⟨rfl, hw⟩; subst W'))
          go_ret
          exact ⟨⟨false, rfl, iffF fun q => by have := q.2.1 k hlt; omega⟩, bel_tr HBW.out (bel_tr (bel1 wr _) HW.out)⟩
        · go_wp2_with (first | (go_at_call 171; refine (validElement_any Q ra la sa nr rc nb lc (B k).sl sc (B k).set (B k).kind (B k).arg _ (HS.out.later (bel1 wr _)) h1 h2 hsl).mono ?_; rintro e W ⟨⟨r, rfl, hr⟩, hb⟩; obtain rfl : r = true := hr.2 HE.out; have gk := (cell_on (a := ⟨wr.heap.size, 0, none⟩) (v := .int .i64 (B k).kind) (by simp) hb); have HW : Hid _ := hb; clear hr hb) | (go_at_call 172; refine (operandsOf_any _ _).mono ?_; rintro e W' ⟨rfl, hw⟩; subst W'))
          go_roundw
          case rel => exact ⟨k + 1, by omega, val_int HST.out.symm, by go_num, bel_tr HBE.out (bel_tr (bel1 wr _) HW.out), fun j hj => if e : j = k then e ▸ ⟨HE.out, by omega⟩ else HA.out j (by omega)⟩
          case measure => simp [intOf]; omega
      · have HE : Hid (¬ M.ElemOK nr nb (B k)) := he
        clear he
        go_wp2_with fail
        refine (validElement_any Q ra la sa nr rc nb lc (B k).sl sc (B k).set (B k).kind (B k).arg _ (HS.out.later (bel1 wr _)) h1 h2 hsl).mono ?_
        rintro e W ⟨⟨r, rfl, hr⟩, hb⟩
        obtain rfl : r = false := by { cases r; rfl; exact absurd (hr.1 rfl) HE.out }
        have HW : Hid _ := hb
        clear hr hb
        go_wp2
        go_ret
        exact ⟨⟨false, rfl, iffF fun q => HE.out (q.1 k hlt)⟩, bel_tr HBW.out (bel_tr (bel1 wr _) HW.out)⟩
    · obtain rfl : k = n := by omega
      go_wp2
      go_ret
      exact ⟨⟨_, rfl, by rw [body_iff nr nb _ B HA.out]; simp⟩, hbw⟩

end Go.Proofs.Ytjndcajblpgjmaa
