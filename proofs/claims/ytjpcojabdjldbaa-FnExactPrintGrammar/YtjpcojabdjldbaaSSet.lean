/-
  Walks: the text of a set, by the specification.
-/
import Derived.Test.YtjpcojabdjldbaaSByte
import Derived.Deep.RegionWith
namespace Go.Proofs.Ytjpcojabdjldbaa
open Go.RowKit
open M (OpD NodeD Gr TX byteT hexD pairT midT setT b1 grp)
set_option linter.unusedVariables false
set_option linter.unusedSimpArgs false

def stxI (S : Nat → Int) (n : Nat) (w : World) (ov iv : Value) (wr : World) : Prop :=
  ∃ (k : Nat) (s : ByteArray), 2 * k ≤ n ∧ iv = .int .i64 ((2 * k : Nat) : Int) ∧ ov = .string s ∧ s = b1 91 ++ midT S k ∧ Below w.heap.size w wr

set_option maxRecDepth 100000 in
set_option maxHeartbeats 8000000 in
theorem l2setText_any (Qs : Nat → Prop) (a : Option Addr) (n c : Nat) (S : Nat → Int) (w : World) (hS : Ints Qs .i64 w a n S) (hC : M.Canon n S) : Calls Try.prog 88 #[.slice a n c] w (GivesS (setT n S) w) := by
  have HS : Hid (Ints Qs .i64 w a n S) := hS
  have HC : Hid (M.Canon n S) := hC
  have hn := M.canon_len hC
  have hev := hC.1
  clear hS hC
  by_cases eA : n = 2 ∧ S 0 = 0 ∧ S 1 = 255
  · obtain ⟨rfl, h00, h11⟩ := eA
    have HT : Hid (setT 2 S = b1 46) := by show _ = _; unfold setT; rw [if_pos ⟨rfl, h00, h11⟩]
    rcases HS.out with q | ⟨sb, so, rfl, hqs, hc⟩
    · omega
    have c0 := hc 0 (by omega)
    have c1 := hc 1 (by omega)
    rw [h00] at c0
    rw [h11] at c1
    simp only [Nat.add_zero] at c0
    clear hc hqs h00 h11
    go_enter Try.func88, Try.ntmps88
    go_wp2
    go_ret
    exact ⟨by rw [HT.out]; rfl, Below.refl _ _⟩
  have HNA : Hid (¬ (n = 2 ∧ S 0 = 0 ∧ S 1 = 255)) := eA
  by_cases eB : n = 2 ∧ S 0 = S 1
  · obtain ⟨rfl, h01⟩ := eB
    have HT : Hid (setT 2 S = b1 34 ++ byteT (S 0) ++ b1 34) := by show _ = _; unfold setT; rw [if_neg HNA.out, if_pos ⟨rfl, h01⟩]
    have hbd := (canon_at HC.out (k := 0) (by omega)).1
    have HBD : Hid (0 ≤ S 0 ∧ S 0 ≤ 255) := by show 0 ≤ S 0 ∧ S 0 ≤ 255; simpa using hbd
    have t1 := M.byteT_size (S 0)
    have f01 : (S 0 == S 1) = true := by simp [h01]
    rcases HS.out with q | ⟨sb, so, rfl, hqs, hc⟩
    · omega
    have c0 := hc 0 (by omega)
    have c1 := hc 1 (by omega)
    simp only [Nat.add_zero] at c0
    have z1 : ¬ 9223372036854775807 < 1 + (byteT (S 0)).size := by omega
    have z2 : ¬ 9223372036854775807 < 1 + (byteT (S 0)).size + 1 := by omega
    clear hc hqs hbd eA
    by_cases h00 : S 0 = 0
    · have f0 : (S 0 == 0) = true := by simp [h00]
      have f1 : (S 1 == 255) = false := by simp; omega
      clear h00 h01
      go_enter Try.func88, Try.ntmps88
      go_wp2
      go_region
      go_wp2_with (go_at_call 127; refine (l2byteText_any (S 0) _ HBD.out).mono ?_; rintro e W2 ⟨rfl, hb⟩; have BW : Hid (Below w.heap.size w W2) := (Below.refl _ w).drew.trans hb; clear hb)
      go_ret
      exact ⟨by rw [HT.out]; rfl, BW.out⟩
    · have f0 : (S 0 == 0) = false := by simp [h00]
      clear h00 h01
      go_enter Try.func88, Try.ntmps88
      go_wp2
      go_region
      go_wp2_with (go_at_call 127; refine (l2byteText_any (S 0) _ HBD.out).mono ?_; rintro e W2 ⟨rfl, hb⟩; have BW : Hid (Below w.heap.size w W2) := (Below.refl _ w).drew.trans hb; clear hb)
      go_ret
      exact ⟨by rw [HT.out]; rfl, BW.out⟩
  have HT : Hid (setT n S = b1 91 ++ midT S (n / 2) ++ b1 93) := by show _ = _; unfold setT; rw [if_neg HNA.out, if_neg eB]
  have HNB : Hid (¬ (n = 2 ∧ S 0 = S 1)) := eB
  by_cases hn0 : n = 0
  · subst hn0
    clear HS
    go_enter Try.func88, Try.ntmps88
    go_wp2
    go_region
    go_wp2
    go_loopw [3, 4] (fun ov iv wr => stxI S 0 w ov iv wr) (fun _ iv _ => 0 - (intOf iv).toNat)
    case atStart => exact ⟨0, b1 91, by omega, rfl, rfl, by rw [midT, ByteArray.append_empty], (Below.refl _ w).drew⟩
    case round =>
      obtain ⟨k, s, hk, rfl, rfl, hs, hbel⟩ := hrel
      obtain rfl : k = 0 := by omega
      have HSS : Hid (s = b1 91 ++ midT S 0) := hs
      have HB : Hid (Below w.heap.size w wr) := hbel
      have hsz : s.size ≤ 2000 := by
        rw [hs, ByteArray.size_append, M.b1_size, midT, M.emp_size]
        omega
      have z1 : ¬ 9223372036854775807 < s.size + 1 := by omega
      clear hs hbel
      go_wp2
      go_ret
      exact ⟨by rw [HT.out, ← HSS.out]; rfl, HB.out⟩
  obtain ⟨sb, so, rfl, hq0, hc0⟩ : ∃ sb so, a = some ⟨sb, so, none⟩ ∧ Qs sb ∧ ∀ i, i < n → w.cell? ⟨sb, so + i, none⟩ = some (.int .i64 (S i)) := by
    rcases HS.out with q | q
    · exact absurd q hn0
    · exact q
  have x0 := hc0 0 (by omega)
  have x1 := hc0 1 (by omega)
  simp only [Nat.add_zero] at x0
  clear hc0 hq0
  have hcase : ¬ n = 2 ∨ (n = 2 ∧ ¬ S 0 = 0) ∨ (n = 2 ∧ S 0 = 0 ∧ ¬ S 1 = 255) := by
    by_cases q : n = 2
    · by_cases q0 : S 0 = 0
      · exact .inr (.inr ⟨q, q0, fun q1 => HNA.out ⟨q, q0, q1⟩⟩)
      · exact .inr (.inl ⟨q, q0⟩)
    · exact .inl q
  have hcond : ∃ p0 p1 p2 : Bool, ((n : Int) == 2) = p0 ∧ (S 0 == 0) = p1 ∧ (S 1 == 255) = p2 ∧ (p0 && p1 && p2) = false ∧ (p0 = true → (S 0 == S 1) = false) := by
    refine ⟨_, _, _, rfl, rfl, rfl, ?_, fun q => ?_⟩
    · rcases hcase with q | ⟨q, q0⟩ | ⟨q, q0, q1⟩
      · have : ((n : Int) == 2) = false := by simp; omega
        rw [this]; rfl
      · have : (S 0 == 0) = false := by simp [q0]
        rw [this]; simp
      · have : (S 1 == 255) = false := by simp [q1]
        rw [this]; simp
    · have hq : n = 2 := by simp at q; omega
      simp
      exact fun e => HNB.out ⟨hq, e⟩
  obtain ⟨p0, p1, p2, hp0, hp1, hp2, hp3, hp4⟩ := hcond
  clear hcase eA eB
  go_enter Try.func88, Try.ntmps88
  cases p0 with
  | false =>
    clear hp1 hp2 hp3 hp4
    go_wp2
    go_region
    go_wp2
    go_loopw [3, 4] (fun ov iv wr => stxI S n w ov iv wr) (fun _ iv _ => n - (intOf iv).toNat)
    case atStart => exact ⟨0, b1 91, by omega, rfl, rfl, by rw [midT, ByteArray.append_empty], (Below.refl _ w).drew⟩
    case round =>
      obtain ⟨k, s, hk, rfl, rfl, hs, hbel⟩ := hrel
      have HSS : Hid (s = b1 91 ++ midT S k) := hs
      have HB : Hid (Below w.heap.size w wr) := hbel
      have hsz : s.size ≤ 2000 := by
        have h3 := M.midT_size S k
        rw [hs, ByteArray.size_append, M.b1_size]
        omega
      clear hs hbel
      by_cases hlt : 2 * k < n
      · obtain ⟨hb1, hb2⟩ := canon_at HC.out (k := k) (by omega)
        have HB1 : Hid (0 ≤ S (2 * k) ∧ S (2 * k) ≤ 255) := hb1
        have HB2 : Hid (0 ≤ S (2 * k + 1) ∧ S (2 * k + 1) ≤ 255) := hb2
        have hle : S (2 * k) ≤ S (2 * k + 1) := by
          have := (M.pairs_canon S (n / 2)).2 (by have := HC.out.2; intro i hi; exact this i (by omega)) k (by omega)
          exact this.2.1
        rcases HS.out with q | ⟨sb1, so1, hae, hqs, hc⟩
        · omega
        cases hae
        have C0 : Hid (w.cell? ⟨sb, so + 2 * k, none⟩ = some (.int .i64 (S (2 * k)))) := hc (2 * k) hlt
        have C1 : Hid (w.cell? ⟨sb, so + (2 * k + 1), none⟩ = some (.int .i64 (S (2 * k + 1)))) := hc (2 * k + 1) (by omega)
        have c0 := cell_on C0.out HB.out
        have c1 := cell_on C1.out HB.out
        have t1 := M.byteT_size (S (2 * k))
        have t2 := M.byteT_size (S (2 * k + 1))
        have HMID : Hid (midT S (k + 1) = midT S k ++ pairT (S (2 * k)) (S (2 * k + 1))) := rfl
        have hdx2 : 2 * k + 1 < n := by omega
        have k0 := hb1.1
        have k1 := hb1.2
        have k2 := hb2.1
        have k3 := hb2.2
        clear hc hqs hb1 hb2
        generalize S (2 * k) = lo at *
        generalize S (2 * k + 1) = hi at *
        generalize hkk : 2 * k = kk at *
        have HKK : Hid (2 * k = kk) := hkk
        clear hkk
        have z1 : ¬ 9223372036854775807 < s.size + (byteT lo).size := by omega
        go_wp2_with fail
        refine (l2byteText_any lo _ HB1.out).mono ?_
        rintro e W2 ⟨rfl, hb⟩
        have BW2 : Hid (Below w.heap.size w W2) := bel_tr HB.out hb
        have d0 := cell_on C0.out BW2.out
        have d1 := cell_on C1.out BW2.out
        clear hb c0 c1
        obtain ⟨u, hu⟩ : ∃ u, byteT lo = u := ⟨_, rfl⟩
        have HU : Hid (byteT lo = u) := hu
        rw [hu] at z1 t1 ⊢
        clear hu
        have hsu : (s ++ u).size ≤ 2004 := by rw [ByteArray.size_append]; omega
        by_cases hA : lo + 1 < hi
        · have HP : Hid (pairT lo hi = u ++ b1 45 ++ byteT hi) := by show _ = _; unfold pairT; rw [if_pos hA, if_pos (by omega), HU.out]
          have hA2 : lo < hi := by omega
          have z2 : ¬ 9223372036854775807 < s.size + u.size + 1 := by omega
          have z3 : ¬ 9223372036854775807 < s.size + u.size + 1 + (byteT hi).size := by omega
          go_wp2
          go_region
          go_wp2
          go_region
          go_wp2_with (go_at_call 127; refine (l2byteText_any hi _ HB2.out).mono ?_; rintro e W3 ⟨rfl, hb⟩; have BW3 : Hid (Below w.heap.size w W3) := bel_tr BW2.out.drew.drew hb; clear hb)
          go_roundw
          case rel => exact ⟨k + 1, s ++ u ++ b1 45 ++ byteT hi, by have := HKK.out; omega, by have := HKK.out; first | go_num | (congr 1; omega), rfl, by rw [HSS.out, HMID.out, HP.out]; simp only [ByteArray.append_assoc], BW3.out⟩
          case measure => simp [intOf]; omega
        · by_cases hB : lo < hi
          · have HP : Hid (pairT lo hi = u ++ byteT hi) := by show _ = _; unfold pairT; rw [if_neg hA, if_pos hB, ByteArray.append_empty, HU.out]
            have z3 : ¬ 9223372036854775807 < s.size + u.size + (byteT hi).size := by omega
            go_wp2
            go_region
            go_wp2
            go_region
            go_wp2_with (go_at_call 127; refine (l2byteText_any hi _ HB2.out).mono ?_; rintro e W3 ⟨rfl, hb⟩; have BW3 : Hid (Below w.heap.size w W3) := bel_tr BW2.out.drew.drew hb; clear hb)
            go_roundw
            case rel => exact ⟨k + 1, s ++ u ++ byteT hi, by have := HKK.out; omega, by have := HKK.out; first | go_num | (congr 1; omega), rfl, by rw [HSS.out, HMID.out, HP.out]; simp only [ByteArray.append_assoc], BW3.out⟩
            case measure => simp [intOf]; omega
          · have HP : Hid (pairT lo hi = u) := by show _ = _; unfold pairT; rw [if_neg hA, if_neg hB, ByteArray.append_empty, ByteArray.append_empty, HU.out]
            go_wp2
            go_region
            go_wp2
            go_region
            go_wp2
            go_roundw
            case rel => exact ⟨k + 1, s ++ u, by have := HKK.out; omega, by have := HKK.out; first | go_num | (congr 1; omega), rfl, by rw [HSS.out, HMID.out, HP.out]; simp only [ByteArray.append_assoc], BW2.out.drew.drew⟩
            case measure => simp [intOf]; omega
      · have hkn : 2 * k = n := by omega
        have HKN : Hid (k = n / 2) := by show _ = _; omega
        have z1 : ¬ 9223372036854775807 < s.size + 1 := by omega
        clear hkn
        go_wp2
        go_ret
        exact ⟨by rw [HT.out, ← HKN.out, ← HSS.out]; rfl, HB.out⟩
  | true =>
    have f01 := hp4 rfl
    clear hp4
    have hbits : (p1 = false) ∨ (p1 = true ∧ p2 = false) := by
      cases p1 with
      | false => exact .inl rfl
      | true => exact .inr ⟨rfl, by simpa using hp3⟩
    clear hp3
    rcases hbits with rfl | ⟨rfl, rfl⟩
    · clear hp2
      go_wp2
      go_region
      go_wp2
      go_loopw [3, 4] (fun ov iv wr => stxI S n w ov iv wr) (fun _ iv _ => n - (intOf iv).toNat)
      case atStart => exact ⟨0, b1 91, by omega, rfl, rfl, by rw [midT, ByteArray.append_empty], (Below.refl _ w).drew⟩
      case round =>
        obtain ⟨k, s, hk, rfl, rfl, hs, hbel⟩ := hrel
        have HSS : Hid (s = b1 91 ++ midT S k) := hs
        have HB : Hid (Below w.heap.size w wr) := hbel
        have hsz : s.size ≤ 2000 := by
          have h3 := M.midT_size S k
          rw [hs, ByteArray.size_append, M.b1_size]
          omega
        clear hs hbel
        by_cases hlt : 2 * k < n
        · obtain ⟨hb1, hb2⟩ := canon_at HC.out (k := k) (by omega)
          have HB1 : Hid (0 ≤ S (2 * k) ∧ S (2 * k) ≤ 255) := hb1
          have HB2 : Hid (0 ≤ S (2 * k + 1) ∧ S (2 * k + 1) ≤ 255) := hb2
          have hle : S (2 * k) ≤ S (2 * k + 1) := by
            have := (M.pairs_canon S (n / 2)).2 (by have := HC.out.2; intro i hi; exact this i (by omega)) k (by omega)
            exact this.2.1
          rcases HS.out with q | ⟨sb1, so1, hae, hqs, hc⟩
          · omega
          cases hae
          have C0 : Hid (w.cell? ⟨sb, so + 2 * k, none⟩ = some (.int .i64 (S (2 * k)))) := hc (2 * k) hlt
          have C1 : Hid (w.cell? ⟨sb, so + (2 * k + 1), none⟩ = some (.int .i64 (S (2 * k + 1)))) := hc (2 * k + 1) (by omega)
          have c0 := cell_on C0.out HB.out
          have c1 := cell_on C1.out HB.out
          have t1 := M.byteT_size (S (2 * k))
          have t2 := M.byteT_size (S (2 * k + 1))
          have HMID : Hid (midT S (k + 1) = midT S k ++ pairT (S (2 * k)) (S (2 * k + 1))) := rfl
          have hdx2 : 2 * k + 1 < n := by omega
          have k0 := hb1.1
          have k1 := hb1.2
          have k2 := hb2.1
          have k3 := hb2.2
          clear hc hqs hb1 hb2
          generalize S (2 * k) = lo at *
          generalize S (2 * k + 1) = hi at *
          generalize hkk : 2 * k = kk at *
          have HKK : Hid (2 * k = kk) := hkk
          clear hkk
          have z1 : ¬ 9223372036854775807 < s.size + (byteT lo).size := by omega
          go_wp2_with fail
          refine (l2byteText_any lo _ HB1.out).mono ?_
          rintro e W2 ⟨rfl, hb⟩
          have BW2 : Hid (Below w.heap.size w W2) := bel_tr HB.out hb
          have d0 := cell_on C0.out BW2.out
          have d1 := cell_on C1.out BW2.out
          clear hb c0 c1
          obtain ⟨u, hu⟩ : ∃ u, byteT lo = u := ⟨_, rfl⟩
          have HU : Hid (byteT lo = u) := hu
          rw [hu] at z1 t1 ⊢
          clear hu
          have hsu : (s ++ u).size ≤ 2004 := by rw [ByteArray.size_append]; omega
          by_cases hA : lo + 1 < hi
          · have HP : Hid (pairT lo hi = u ++ b1 45 ++ byteT hi) := by show _ = _; unfold pairT; rw [if_pos hA, if_pos (by omega), HU.out]
            have hA2 : lo < hi := by omega
            have z2 : ¬ 9223372036854775807 < s.size + u.size + 1 := by omega
            have z3 : ¬ 9223372036854775807 < s.size + u.size + 1 + (byteT hi).size := by omega
            go_wp2
            go_region
            go_wp2
            go_region
            go_wp2_with (go_at_call 127; refine (l2byteText_any hi _ HB2.out).mono ?_; rintro e W3 ⟨rfl, hb⟩; have BW3 : Hid (Below w.heap.size w W3) := bel_tr BW2.out.drew.drew hb; clear hb)
            go_roundw
            case rel => exact ⟨k + 1, s ++ u ++ b1 45 ++ byteT hi, by have := HKK.out; omega, by have := HKK.out; first | go_num | (congr 1; omega), rfl, by rw [HSS.out, HMID.out, HP.out]; simp only [ByteArray.append_assoc], BW3.out⟩
            case measure => simp [intOf]; omega
          · by_cases hB : lo < hi
            · have HP : Hid (pairT lo hi = u ++ byteT hi) := by show _ = _; unfold pairT; rw [if_neg hA, if_pos hB, ByteArray.append_empty, HU.out]
              have z3 : ¬ 9223372036854775807 < s.size + u.size + (byteT hi).size := by omega
              go_wp2
              go_region
              go_wp2
              go_region
              go_wp2_with (go_at_call 127; refine (l2byteText_any hi _ HB2.out).mono ?_; rintro e W3 ⟨rfl, hb⟩; have BW3 : Hid (Below w.heap.size w W3) := bel_tr BW2.out.drew.drew hb; clear hb)
              go_roundw
              case rel => exact ⟨k + 1, s ++ u ++ byteT hi, by have := HKK.out; omega, by have := HKK.out; first | go_num | (congr 1; omega), rfl, by rw [HSS.out, HMID.out, HP.out]; simp only [ByteArray.append_assoc], BW3.out⟩
              case measure => simp [intOf]; omega
            · have HP : Hid (pairT lo hi = u) := by show _ = _; unfold pairT; rw [if_neg hA, if_neg hB, ByteArray.append_empty, ByteArray.append_empty, HU.out]
              go_wp2
              go_region
              go_wp2
              go_region
              go_wp2
              go_roundw
              case rel => exact ⟨k + 1, s ++ u, by have := HKK.out; omega, by have := HKK.out; first | go_num | (congr 1; omega), rfl, by rw [HSS.out, HMID.out, HP.out]; simp only [ByteArray.append_assoc], BW2.out.drew.drew⟩
              case measure => simp [intOf]; omega
        · have hkn : 2 * k = n := by omega
          have HKN : Hid (k = n / 2) := by show _ = _; omega
          have z1 : ¬ 9223372036854775807 < s.size + 1 := by omega
          clear hkn
          go_wp2
          go_ret
          exact ⟨by rw [HT.out, ← HKN.out, ← HSS.out]; rfl, HB.out⟩
    · go_wp2
      go_region
      go_wp2
      go_loopw [3, 4] (fun ov iv wr => stxI S n w ov iv wr) (fun _ iv _ => n - (intOf iv).toNat)
      case atStart => exact ⟨0, b1 91, by omega, rfl, rfl, by rw [midT, ByteArray.append_empty], (Below.refl _ w).drew⟩
      case round =>
        obtain ⟨k, s, hk, rfl, rfl, hs, hbel⟩ := hrel
        have HSS : Hid (s = b1 91 ++ midT S k) := hs
        have HB : Hid (Below w.heap.size w wr) := hbel
        have hsz : s.size ≤ 2000 := by
          have h3 := M.midT_size S k
          rw [hs, ByteArray.size_append, M.b1_size]
          omega
        clear hs hbel
        by_cases hlt : 2 * k < n
        · obtain ⟨hb1, hb2⟩ := canon_at HC.out (k := k) (by omega)
          have HB1 : Hid (0 ≤ S (2 * k) ∧ S (2 * k) ≤ 255) := hb1
          have HB2 : Hid (0 ≤ S (2 * k + 1) ∧ S (2 * k + 1) ≤ 255) := hb2
          have hle : S (2 * k) ≤ S (2 * k + 1) := by
            have := (M.pairs_canon S (n / 2)).2 (by have := HC.out.2; intro i hi; exact this i (by omega)) k (by omega)
            exact this.2.1
          rcases HS.out with q | ⟨sb1, so1, hae, hqs, hc⟩
          · omega
          cases hae
          have C0 : Hid (w.cell? ⟨sb, so + 2 * k, none⟩ = some (.int .i64 (S (2 * k)))) := hc (2 * k) hlt
          have C1 : Hid (w.cell? ⟨sb, so + (2 * k + 1), none⟩ = some (.int .i64 (S (2 * k + 1)))) := hc (2 * k + 1) (by omega)
          have c0 := cell_on C0.out HB.out
          have c1 := cell_on C1.out HB.out
          have t1 := M.byteT_size (S (2 * k))
          have t2 := M.byteT_size (S (2 * k + 1))
          have HMID : Hid (midT S (k + 1) = midT S k ++ pairT (S (2 * k)) (S (2 * k + 1))) := rfl
          have hdx2 : 2 * k + 1 < n := by omega
          have k0 := hb1.1
          have k1 := hb1.2
          have k2 := hb2.1
          have k3 := hb2.2
          clear hc hqs hb1 hb2
          generalize S (2 * k) = lo at *
          generalize S (2 * k + 1) = hi at *
          generalize hkk : 2 * k = kk at *
          have HKK : Hid (2 * k = kk) := hkk
          clear hkk
          have z1 : ¬ 9223372036854775807 < s.size + (byteT lo).size := by omega
          go_wp2_with fail
          refine (l2byteText_any lo _ HB1.out).mono ?_
          rintro e W2 ⟨rfl, hb⟩
          have BW2 : Hid (Below w.heap.size w W2) := bel_tr HB.out hb
          have d0 := cell_on C0.out BW2.out
          have d1 := cell_on C1.out BW2.out
          clear hb c0 c1
          obtain ⟨u, hu⟩ : ∃ u, byteT lo = u := ⟨_, rfl⟩
          have HU : Hid (byteT lo = u) := hu
          rw [hu] at z1 t1 ⊢
          clear hu
          have hsu : (s ++ u).size ≤ 2004 := by rw [ByteArray.size_append]; omega
          by_cases hA : lo + 1 < hi
          · have HP : Hid (pairT lo hi = u ++ b1 45 ++ byteT hi) := by show _ = _; unfold pairT; rw [if_pos hA, if_pos (by omega), HU.out]
            have hA2 : lo < hi := by omega
            have z2 : ¬ 9223372036854775807 < s.size + u.size + 1 := by omega
            have z3 : ¬ 9223372036854775807 < s.size + u.size + 1 + (byteT hi).size := by omega
            go_wp2
            go_region
            go_wp2
            go_region
            go_wp2_with (go_at_call 127; refine (l2byteText_any hi _ HB2.out).mono ?_; rintro e W3 ⟨rfl, hb⟩; have BW3 : Hid (Below w.heap.size w W3) := bel_tr BW2.out.drew.drew hb; clear hb)
            go_roundw
            case rel => exact ⟨k + 1, s ++ u ++ b1 45 ++ byteT hi, by have := HKK.out; omega, by have := HKK.out; first | go_num | (congr 1; omega), rfl, by rw [HSS.out, HMID.out, HP.out]; simp only [ByteArray.append_assoc], BW3.out⟩
            case measure => simp [intOf]; omega
          · by_cases hB : lo < hi
            · have HP : Hid (pairT lo hi = u ++ byteT hi) := by show _ = _; unfold pairT; rw [if_neg hA, if_pos hB, ByteArray.append_empty, HU.out]
              have z3 : ¬ 9223372036854775807 < s.size + u.size + (byteT hi).size := by omega
              go_wp2
              go_region
              go_wp2
              go_region
              go_wp2_with (go_at_call 127; refine (l2byteText_any hi _ HB2.out).mono ?_; rintro e W3 ⟨rfl, hb⟩; have BW3 : Hid (Below w.heap.size w W3) := bel_tr BW2.out.drew.drew hb; clear hb)
              go_roundw
              case rel => exact ⟨k + 1, s ++ u ++ byteT hi, by have := HKK.out; omega, by have := HKK.out; first | go_num | (congr 1; omega), rfl, by rw [HSS.out, HMID.out, HP.out]; simp only [ByteArray.append_assoc], BW3.out⟩
              case measure => simp [intOf]; omega
            · have HP : Hid (pairT lo hi = u) := by show _ = _; unfold pairT; rw [if_neg hA, if_neg hB, ByteArray.append_empty, ByteArray.append_empty, HU.out]
              go_wp2
              go_region
              go_wp2
              go_region
              go_wp2
              go_roundw
              case rel => exact ⟨k + 1, s ++ u, by have := HKK.out; omega, by have := HKK.out; first | go_num | (congr 1; omega), rfl, by rw [HSS.out, HMID.out, HP.out]; simp only [ByteArray.append_assoc], BW2.out.drew.drew⟩
              case measure => simp [intOf]; omega
        · have hkn : 2 * k = n := by omega
          have HKN : Hid (k = n / 2) := by show _ = _; omega
          have z1 : ¬ 9223372036854775807 < s.size + 1 := by omega
          clear hkn
          go_wp2
          go_ret
          exact ⟨by rw [HT.out, ← HKN.out, ← HSS.out]; rfl, HB.out⟩

end Go.Proofs.Ytjpcojabdjldbaa
