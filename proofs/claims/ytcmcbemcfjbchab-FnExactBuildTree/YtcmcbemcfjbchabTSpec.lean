/-
  Walks: the specification's l5eventsOK and l5depths.
-/
import Derived.Test.YtcmcbemcfjbchabTTree
import Derived.Test.YtcmcbemcfjbchabRSet
import Derived.BigQuiet
namespace Go.Proofs.Ytcmcbemcfjbchab
open Go.RowKit
set_option linter.unusedVariables false
set_option linter.unusedSimpArgs false

def eoI (w : World) (n : Nat) (E : Nat → EvD) (ov iv : Value) (wr : World) : Prop := ∃ k : Nat, k ≤ n ∧ iv = .int .i64 (k : Int) ∧ ov = .int .i64 (opn E k) ∧ Pre E k ∧ Below w.heap.size w wr
theorem pre_snoc {E : Nat → EvD} {k : Nat} (h : Pre E k) (e : EvOK E k) : Pre E (k + 1) := fun j hj => by
  by_cases q : j = k
  · subst q; exact e
  · exact h j (by omega)

set_option maxRecDepth 100000 in
set_option maxHeartbeats 4000000 in
theorem l5eventsOK_any (Q : Nat → Prop) (a : Option Addr) (n c : Nat) (E : Nat → EvD) (w : World) (hE : EvA Q w a n E) (hn : n ≤ 1048576) :
    Calls Try.prog 112 #[.slice a n c] w (SaysB (Whole E n) w) := by
  have HE : Hid (EvA Q w a n E) := hE
  clear hE
  go_enter Try.func112, Try.ntmps112
  go_wp2
  go_loopw [3, 4] (fun ov iv wr => eoI w n E ov iv wr) (fun ov iv _ => n - (intOf iv).toNat)
  case atStart => exact ⟨0, Nat.zero_le _, rfl, rfl, fun j hj => absurd hj (Nat.not_lt_zero _), Below.refl _ _⟩
  case round =>
    obtain ⟨k, hk, rfl, rfl, hpre, hbel⟩ := hrel
    have HP : Hid (Pre E k) := hpre
    have HB : Hid (Below w.heap.size w wr) := hbel
    have o1 := opn_le E k
    have o2 := opn_ge hpre
    obtain ⟨o, ho⟩ : ∃ o, opn E k = o := ⟨_, rfl⟩
    have HO : Hid (opn E k = o) := ho
    rw [ho] at o1 o2 ⊢
    clear hpre ho
    by_cases hlt : k < n
    · have hE := HE.out.later hbel
      rcases hE with h0 | ⟨b, off, rfl, hq, hE⟩
      · omega
      obtain ⟨c0, c1, c2⟩ := hE k hlt
      obtain ⟨kd, hkd⟩ : ∃ kd, (E k).kind = kd := ⟨_, rfl⟩
      obtain ⟨ps, hps⟩ : ∃ ps, (E k).pos = ps := ⟨_, rfl⟩
      have HK : Hid ((E k).kind = kd) := hkd
      have HS : Hid ((E k).pos = ps) := hps
      rw [hkd] at c0
      rw [hps] at c2
      have lb := lt_of_cell c0
      have hlt' : (k : Int) < (n : Int) := by omega
      have HBAD : Hid (¬ EvOK E k → ¬ Whole E n) := fun h hw => h (hw.1 k hlt)
      have HEE : Hid (∀ i, i < n → EvC wr b (off + i * 3) (E i)) := hE
      clear hkd hps hE c1 hbel
      by_cases q1 : kd < 0
      · have d1 : decide (kd < 0) = true := by simpa using q1
        go_wp2
        go_ret
        exact ⟨⟨false, rfl, iffF (HBAD.out (fun h => by have := h.lo; rw [HK.out] at this; omega))⟩, HB.out⟩
      have d1 : decide (kd < 0) = false := by simpa using q1
      by_cases q2 : 2 < kd
      · have d2 : decide (2 < kd) = true := by simpa using q2
        go_wp2
        go_ret
        exact ⟨⟨false, rfl, iffF (HBAD.out (fun h => by have := h.hi; rw [HK.out] at this; omega))⟩, HB.out⟩
      have d2 : decide (2 < kd) = false := by simpa using q2
      by_cases q3 : ps < 0
      · have d3 : decide (ps < 0) = true := by simpa using q3
        go_wp2
        go_ret
        exact ⟨⟨false, rfl, iffF (HBAD.out (fun h => by have := h.pos; rw [HS.out] at this; omega))⟩, HB.out⟩
      have d3 : decide (ps < 0) = false := by simpa using q3
      have HFIN : Hid (¬ kd < 0 → ¬ 2 < kd → ¬ ps < 0 → (0 < k → (E (k - 1)).pos ≤ ps) → 0 ≤ opn E (k + 1) → EvOK E k) := fun h1 h2 h3 h4 h5 => ⟨by rw [HK.out]; omega, by rw [HK.out]; omega, by rw [HS.out]; omega, fun q => by rw [HS.out]; exact h4 q, h5⟩
      have HQ3 : Hid (¬ kd < 0 ∧ ¬ 2 < kd ∧ ¬ ps < 0) := ⟨q1, q2, q3⟩
      by_cases q4 : k = 0
      · subst q4
        simp only [Nat.zero_mul, Nat.add_zero] at c0 c2
        cases hc : (kd == 2) with
        | true =>
          have HC : Hid (opn E (0 + 1) = o - 1) := by show _ = _; rw [opn_close (by unfold cls; rw [HK.out]; exact hc), HO.out]
          by_cases q5 : o - 1 < 0
          · have d5 : decide (o - 1 < 0) = true := by simpa using q5
            go_wp2
            go_quiet (fail)
            go_wp2
            go_ret
            exact ⟨⟨false, rfl, iffF (HBAD.out (fun h => by have := h.room; rw [HC.out] at this; omega))⟩, below_drewN HB.out _⟩
          · omega
        | false =>
          have HC : Hid (opn E (0 + 1) = o + 1) := by show _ = _; rw [opn_open (by unfold cls; rw [HK.out]; exact hc), HO.out]
          have d5 : decide (o + 1 < 0) = false := by simp; omega
          go_wp2
          go_quiet (fail)
          go_wp2
          go_roundw
          case rel => exact ⟨0 + 1, by omega, by go_num, by rw [HC.out], pre_snoc HP.out (HFIN.out HQ3.out.1 HQ3.out.2.1 HQ3.out.2.2 (fun h => by omega) (by rw [HC.out]; omega)), below_drewN HB.out _⟩
          case measure => first | (simp [intOf]; done) | (simp [intOf]; omega)
      · obtain ⟨j, rfl⟩ : ∃ j, k = j + 1 := ⟨k - 1, by omega⟩
        obtain ⟨_, _, p2⟩ := HEE.out j (by omega)
        obtain ⟨pp, hpp⟩ : ∃ pp, (E j).pos = pp := ⟨_, rfl⟩
        have HPP : Hid ((E j).pos = pp) := hpp
        rw [hpp] at p2
        have d4 : decide ((0 : Int) < (j : Int) + 1) = true := decide_eq_true (by omega)
        have hj1 : (j : Int) < (n : Int) := by omega
        clear hpp
        by_cases q6 : ps < pp
        · have d6 : decide (ps < pp) = true := by simpa using q6
          go_wp2
          go_quiet (fail)
          go_wp2
          go_ret
          exact ⟨⟨false, rfl, iffF (HBAD.out (fun h => by have := h.asc (by omega); rw [HS.out] at this; have e : (E (j + 1 - 1)).pos = pp := HPP.out; omega))⟩, below_drewN HB.out _⟩
        have d6 : decide (ps < pp) = false := by simpa using q6
        have HASC : Hid (0 < j + 1 → (E (j + 1 - 1)).pos ≤ ps) := fun _ => by have e : (E (j + 1 - 1)).pos = pp := HPP.out; omega
        cases hc : (kd == 2) with
        | true =>
          have HC : Hid (opn E ((j + 1) + 1) = o - 1) := by show _ = _; rw [opn_close (by unfold cls; rw [HK.out]; exact hc), HO.out]
          by_cases q5 : o - 1 < 0
          · have d5 : decide (o - 1 < 0) = true := by simpa using q5
            go_wp2
            go_quiet (fail)
            go_wp2
            go_ret
            exact ⟨⟨false, rfl, iffF (HBAD.out (fun h => by have := h.room; rw [HC.out] at this; omega))⟩, below_drewN HB.out _⟩
          · have d5 : decide (o - 1 < 0) = false := by simpa using q5
            go_wp2
            go_quiet (fail)
            go_wp2
            go_roundw
            case rel => exact ⟨(j + 1) + 1, by omega, by go_num, by rw [HC.out], pre_snoc HP.out (HFIN.out HQ3.out.1 HQ3.out.2.1 HQ3.out.2.2 HASC.out (by rw [HC.out]; omega)), below_drewN HB.out _⟩
            case measure => first | (simp [intOf]; done) | (simp [intOf]; omega)
        | false =>
          have HC : Hid (opn E ((j + 1) + 1) = o + 1) := by show _ = _; rw [opn_open (by unfold cls; rw [HK.out]; exact hc), HO.out]
          have d5 : decide (o + 1 < 0) = false := by simp; omega
          go_wp2
          go_quiet (fail)
          go_wp2
          go_roundw
          case rel => exact ⟨(j + 1) + 1, by omega, by go_num, by rw [HC.out], pre_snoc HP.out (HFIN.out HQ3.out.1 HQ3.out.2.1 HQ3.out.2.2 HASC.out (by rw [HC.out]; omega)), below_drewN HB.out _⟩
          case measure => first | (simp [intOf]; done) | (simp [intOf]; omega)
    · obtain rfl : k = n := by omega
      clear hbel
      cases h0 : (o == 0) with
      | true =>
        have HW : Hid (Whole E k) := ⟨HP.out, by rw [HO.out]; simpa using h0⟩
        go_wp2
        go_ret
        exact ⟨⟨true, rfl, iffT HW.out⟩, HB.out⟩
      | false =>
        have HW : Hid (¬ Whole E k) := fun h => by have := h.2; rw [HO.out] at this; simp [this] at h0
        go_wp2
        go_ret
        exact ⟨⟨false, rfl, iffF HW.out⟩, HB.out⟩

end Go.Proofs.Ytcmcbemcfjbchab
