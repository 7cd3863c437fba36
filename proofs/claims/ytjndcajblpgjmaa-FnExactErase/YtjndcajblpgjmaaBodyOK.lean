/-
  Walks: the model's look at a body.
-/
import Derived.Test.YtjndcajblpgjmaaExpr
namespace Go.Proofs.Ytjndcajblpgjmaa
open Go.RowKit
open M (OpD NodeD Gr)
set_option linter.unusedVariables false

def bodyI (w : World) (n nr nb : Nat) (B : Nat → OpD) (i : Value) (wr : World) : Prop :=
  ∃ k : Nat, k ≤ n ∧ i = .int .i64 (k : Int) ∧ Below w.heap.size w wr ∧ ∀ j, j < k → M.ElemOK nr nb (B j)

theorem body_shape (nr nb n : Nat) (B : Nat → OpD) (h : ∀ j, j < n → M.ElemOK nr nb (B j)) : M.BodyOK nr nb n B ↔ M.Shape n B :=
  ⟨fun q => q.2, fun q => ⟨h, q⟩⟩

set_option maxHeartbeats 4000000 in
theorem l2bodyOK_any (Q : Nat → Prop) (a : Option Addr) (nr nb n c : Nat) (B : Nat → OpD) (w : World) (hB : OpsA Q w a n B) (h1 : nr ≤ 1048576) (h2 : nb ≤ 1048576) (h3 : SmallB n B) :
    Calls Try.prog 53 #[.slice a n c, .int .i64 nr, .int .i64 nb] w (SaysB (M.BodyOK nr nb n B) w) := by
  obtain ⟨hn, hsl⟩ := h3
  have HB : Hid (OpsA Q w a n B) := hB
  have HSL : Hid (∀ i, i < n → (B i).sl ≤ 1048576) := hsl
  clear hB hsl
  go_enter Try.func53, Try.ntmps53
  go_wp2
  go_loopw [7] (fun i wr => bodyI w n nr nb B i wr) (fun i _ => n - (intOf i).toNat)
  case atStart => exact ⟨0, Nat.zero_le _, rfl, Below.refl _ _, fun j hj => absurd hj (Nat.not_lt_zero _)⟩
  case round =>
    obtain ⟨k, hk, rfl, hbw, hall⟩ := hrel
    have HA : Hid (∀ j, j < k → M.ElemOK nr nb (B j)) := hall
    clear hall
    by_cases hlt : k < n
    · have hB := HB.out.later hbw
      rcases hB with h0 | ⟨b, off, rfl, hq, hB⟩
      · omega
      obtain ⟨c0, ⟨sa, sc, c1, hs⟩, c2⟩ := hB k hlt
      have hsl := HSL.out k hlt
      have hbl : b < wr.heap.size := lt_of_cell c0
      have HBW : Hid (Below w.heap.size w wr) := hbw
      clear hB hbw
      obtain ⟨d, hd⟩ : ∃ d, B k = d := ⟨_, rfl⟩
      have HD : Hid (B k = d) := hd
      rw [hd] at c0 c1 c2 hs hsl
      clear hd
      obtain ⟨kd, sl, S, arg⟩ := d
      simp only at c0 c1 c2 hs hsl
      have HS : Hid (Ints Q .i64 wr sa sl S) := hs
      clear hs
      have good : M.ElemOK nr nb ⟨kd, sl, S, arg⟩ → ∀ j, j < k + 1 → M.ElemOK nr nb (B j) := fun q j hj => if e : j = k then e ▸ HD.out ▸ q else HA.out j (by omega)
      have bad : ¬ M.ElemOK nr nb ⟨kd, sl, S, arg⟩ → ¬ M.BodyOK nr nb n B := fun q p => q (HD.out ▸ p.1 k hlt)
      have HG : Hid (M.ElemOK nr nb ⟨kd, sl, S, arg⟩ → ∀ j, j < k + 1 → M.ElemOK nr nb (B j)) := good
      have HN : Hid (¬ M.ElemOK nr nb ⟨kd, sl, S, arg⟩ → ¬ M.BodyOK nr nb n B) := bad
      clear good bad
      rcases elem_cases kd with rfl | rfl | rfl | hk' | hk'
      · by_cases hc : M.Canon sl S
        · have HC : Hid (M.Canon sl S) := hc
          clear hc
          by_cases ha : arg < 0
          · go_wp2_with (go_at_call 112; refine (l2canon_any Q sa sl sc S _ (HS.out.later (bel1 wr _)) hsl).mono ?_; rintro e W ⟨⟨r, rfl, hr⟩, hb⟩; obtain rfl : r = true := hr.2 HC.out; have g0 := (cell_on (a := ⟨wr.heap.size, 0, none⟩) (v := .int .i64 1) (by simp) hb); have g2 := (cell_on (a := ⟨wr.heap.size, 2, none⟩) (v := .int .i64 arg) (by simp) hb); have HW : Hid _ := hb; clear hr hb)
            go_ret
            exact ⟨⟨false, rfl, iffF (HN.out fun q => by have := ((elem1 _ _ _ _ _).1 q).1; omega)⟩, bel_tr HBW.out (bel_tr (bel1 wr _) HW.out)⟩
          by_cases ha' : 1 ≤ arg
          · go_wp2_with (go_at_call 112; refine (l2canon_any Q sa sl sc S _ (HS.out.later (bel1 wr _)) hsl).mono ?_; rintro e W ⟨⟨r, rfl, hr⟩, hb⟩; obtain rfl : r = true := hr.2 HC.out; have g0 := (cell_on (a := ⟨wr.heap.size, 0, none⟩) (v := .int .i64 1) (by simp) hb); have g2 := (cell_on (a := ⟨wr.heap.size, 2, none⟩) (v := .int .i64 arg) (by simp) hb); have HW : Hid _ := hb; clear hr hb)
            go_ret
            exact ⟨⟨false, rfl, iffF (HN.out fun q => by have := ((elem1 _ _ _ _ _).1 q).1; omega)⟩, bel_tr HBW.out (bel_tr (bel1 wr _) HW.out)⟩
          go_wp2_with (go_at_call 112; refine (l2canon_any Q sa sl sc S _ (HS.out.later (bel1 wr _)) hsl).mono ?_; rintro e W ⟨⟨r, rfl, hr⟩, hb⟩; obtain rfl : r = true := hr.2 HC.out; have g0 := (cell_on (a := ⟨wr.heap.size, 0, none⟩) (v := .int .i64 1) (by simp) hb); have g2 := (cell_on (a := ⟨wr.heap.size, 2, none⟩) (v := .int .i64 arg) (by simp) hb); have HW : Hid _ := hb; clear hr hb)
          go_roundw
          case rel => exact ⟨k + 1, by omega, by go_num, bel_tr HBW.out (bel_tr (bel1 wr _) HW.out), HG.out ((elem1 _ _ _ _ _).2 ⟨by omega, HC.out⟩)⟩
          case measure => simp [intOf]; omega
        · have HC : Hid (¬ M.Canon sl S) := hc
          clear hc
          go_wp2_with (go_at_call 112; refine (l2canon_any Q sa sl sc S _ (HS.out.later (bel1 wr _)) hsl).mono ?_; rintro e W ⟨⟨r, rfl, hr⟩, hb⟩; obtain rfl : r = false := by { cases r; rfl; exact absurd (hr.1 rfl) HC.out }; have HW : Hid _ := hb; clear hr hb)
          go_ret
          exact ⟨⟨false, rfl, iffF (HN.out fun q => HC.out ((elem1 _ _ _ _ _).1 q).2)⟩, bel_tr HBW.out (bel_tr (bel1 wr _) HW.out)⟩
      · by_cases hz : sl = 0
        · subst hz
          by_cases ha : arg < 0
          · go_wp2
            go_ret
            exact ⟨⟨false, rfl, iffF (HN.out fun q => by have := (elem2 _ _ _ _ _).1 q; omega)⟩, bel_tr HBW.out (bel1 wr _)⟩
          by_cases ha' : (nr : Int) ≤ arg
          · go_wp2
            go_ret
            exact ⟨⟨false, rfl, iffF (HN.out fun q => by have := (elem2 _ _ _ _ _).1 q; omega)⟩, bel_tr HBW.out (bel1 wr _)⟩
          go_wp2
          go_roundw
          case rel => exact ⟨k + 1, by omega, by go_num, bel_tr HBW.out (bel1 wr _), HG.out ((elem2 _ _ _ _ _).2 ⟨by omega, by omega, rfl⟩)⟩
          case measure => simp [intOf]; omega
        · have hz' : ((sl : Int) != 0) = true := by simp; omega
          go_wp2
          go_ret
          exact ⟨⟨false, rfl, iffF (HN.out fun q => by have := (elem2 _ _ _ _ _).1 q; omega)⟩, bel_tr HBW.out (bel1 wr _)⟩
      · by_cases hz : sl = 0
        · subst hz
          by_cases ha : arg < 0
          · go_wp2
            go_ret
            exact ⟨⟨false, rfl, iffF (HN.out fun q => by have := (elem3 _ _ _ _ _).1 q; omega)⟩, bel_tr HBW.out (bel1 wr _)⟩
          by_cases ha' : (nb : Int) ≤ arg
          · go_wp2
            go_ret
            exact ⟨⟨false, rfl, iffF (HN.out fun q => by have := (elem3 _ _ _ _ _).1 q; omega)⟩, bel_tr HBW.out (bel1 wr _)⟩
          go_wp2
          go_roundw
          case rel => exact ⟨k + 1, by omega, by go_num, bel_tr HBW.out (bel1 wr _), HG.out ((elem3 _ _ _ _ _).2 ⟨by omega, by omega, rfl⟩)⟩
          case measure => simp [intOf]; omega
        · have hz' : ((sl : Int) != 0) = true := by simp; omega
          go_wp2
          go_ret
          exact ⟨⟨false, rfl, iffF (HN.out fun q => by have := (elem3 _ _ _ _ _).1 q; omega)⟩, bel_tr HBW.out (bel1 wr _)⟩
      · rcases hk' with rfl | rfl | rfl | rfl | rfl
        all_goals (
          by_cases hz : sl = 0
          · subst hz
            by_cases ha : arg < 0
            · go_wp2
              go_ret
              exact ⟨⟨false, rfl, iffF (HN.out fun q => by have := (elem0 _ _ _ _ _ _ (by omega)).1 q; omega)⟩, bel_tr HBW.out (bel1 wr _)⟩
            by_cases ha' : 1 ≤ arg
            · go_wp2
              go_ret
              exact ⟨⟨false, rfl, iffF (HN.out fun q => by have := (elem0 _ _ _ _ _ _ (by omega)).1 q; omega)⟩, bel_tr HBW.out (bel1 wr _)⟩
            go_wp2
            go_roundw
            case rel => exact ⟨k + 1, by omega, by go_num, bel_tr HBW.out (bel1 wr _), HG.out ((elem0 _ _ _ _ _ _ (by omega)).2 ⟨by omega, rfl⟩)⟩
            case measure => simp [intOf]; omega
          · have hz' : ((sl : Int) != 0) = true := by simp; omega
            go_wp2
            go_ret
            exact ⟨⟨false, rfl, iffF (HN.out fun q => by have := (elem0 _ _ _ _ _ _ (by omega)).1 q; omega)⟩, bel_tr HBW.out (bel1 wr _)⟩)
      · have HK : Hid (kd < 0 ∨ 7 < kd) := hk'
        by_cases hlo : kd < 0
        · go_wp2
          go_ret
          exact ⟨⟨false, rfl, iffF (HN.out (elemx _ _ _ _ _ _ HK.out))⟩, bel_tr HBW.out (bel1 wr _)⟩
        · have hhi : 7 < kd := by omega
          go_wp2
          go_ret
          exact ⟨⟨false, rfl, iffF (HN.out (elemx _ _ _ _ _ _ HK.out))⟩, bel_tr HBW.out (bel1 wr _)⟩
    · obtain rfl : k = n := by omega
      have hB := HB.out.later hbw
      have HBB : Hid (OpsA Q wr a k B) := hB
      clear hB
      go_wp2_with (go_at_call 113; refine (l2shape_any Q a k c B _ HBB.out hn).mono ?_; rintro e W ⟨⟨r, rfl, hr⟩, hw⟩; subst W; have HR : Hid _ := hr; clear hr)
      go_ret
      exact ⟨⟨_, rfl, HR.out.trans (body_shape nr nb _ B HA.out).symm⟩, hbw⟩

end Go.Proofs.Ytjndcajblpgjmaa
