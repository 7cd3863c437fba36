/-
  The law FnExactRun.
-/
import Derived.Test.YtcmcbemcfjbchabRows
import Derived.Test.YtcmcbemcfjbchabOpen
import Derived.Test.YtcmcbemcfjbchabIFin
import Derived.ShutString
import Derived.ChangeOld
import Derived.Deep.RegionWith
namespace Go.Proofs.Ytcmcbemcfjbchab.fnExactRun
open Go.ChangeShapes Go.WideShapes Go.ChangeAt Go.RowKit Go.Deep
open M (OpD NodeD Gr InsD)
set_option linter.unusedVariables false

theorem own : ownKnob Try.prog.godebug = none := by kernel_rfl
theorem laidOut : laidOutB Try.prog = true := by kernel_rfl
theorem cellsU8 : Try.prog.cellsOf 5 = 1 := by kernel_rfl
theorem ends_good {n : Nat} {R : Nat → InsD} {il : Nat} {I : Nat → Int} {fuel most : Int} {s t : MSt} (h : Ends n R il I fuel most s t) : Good most s → (s.steps : Int) ≤ fuel → Good most t ∧ (t.steps : Int) ≤ fuel := by
  induction h with
  | over _ => exact fun g k => ⟨g, k⟩
  | go hd _ ih => exact fun g k => ih (next_good g) (next_measure hd k).1
theorem run_small {n : Nat} {R : Nat → InsD} {il : Nat} {I : Nat → Int} {fuel most : Int} {o : OutD} (h : RunD n R il I fuel most o) : SmallO o := by
  rcases h with ⟨ha, t, he, rfl⟩ | ⟨_, rfl⟩
  · obtain ⟨hg, hs⟩ := ends_good he ⟨ha.m0, Nat.le_refl _, fun f hf => by simp [s0] at hf, List.Pairwise.nil, fun f hf => by simp [s0] at hf⟩ ha.f0
    have hf := ha.f1
    have hl := hg.logs
    by_cases hc : t.code = 4 ∨ t.code = 3
    · have e : outOf t = outBad t.code := by unfold outOf; rw [if_pos hc]
      rw [e]
      exact ⟨Nat.zero_le _, Nat.zero_le _⟩
    · have e := outOf_eq hc
      have hr := rg_len t.exp 256
      rw [← rgA_eq] at hr
      generalize rgA t.exp = l at hr e
      rw [e]
      refine ⟨?_, ?_⟩
      · show l.length ≤ 1048576
        omega
      · show (if t.code = 0 then t.log.length else 0) ≤ 1048576
        split <;> omega
  · exact ⟨Nat.zero_le _, Nat.zero_le _⟩
theorem bel_wrote {w W W' : World} {Q : Nat → Prop} (hb : Below w.heap.size w W) (hk : Wrote Q W W') (hq : ∀ x, Q x → w.heap.size ≤ x) : Below w.heap.size w W' :=
  ⟨hk.os.trans hb.os, hk.tape.trans hb.tape, hk.output.trans hb.output, by rw [hk.size]; exact hb.size, fun b hb' => (hk.block b (fun q => by have := hq b q; omega)).trans (hb.block b hb')⟩

set_option maxRecDepth 100000 in
set_option maxHeartbeats 16000000 in
theorem walk (Q Q' : Nat → Prop) (a : Option Addr) (n c : Nat) (R : Nat → InsD) (ia : Option Addr) (il ic : Nat) (I : Nat → Int) (fuel most : Int) (w : World) (hA : InsA Q w a n R) (hn : n ≤ 9223372036854775807) (hsl : ∀ i, i < n → (R i).sl ≤ 9223372036854775807) (hI : Ints Q' .u8 w ia il I) (hil : il ≤ 9223372036854775807) (hB : Byt il I) :
    Calls Try.prog 10 #[.slice a n c, .slice ia il ic, .int .i64 fuel, .int .i64 most] w fun e w' => e = .returned (.bool true) ∧ Below w.heap.size w w' := by
  have HA : Hid (InsA Q w a n R) := hA
  have HI : Hid (Ints Q' .u8 w ia il I) := hI
  have HBY : Hid (Byt il I) := hB
  have HSL : Hid (∀ i, i < n → (R i).sl ≤ 9223372036854775807) := hsl
  obtain ⟨o, hD⟩ := run_some n R il I fuel most
  have HD : Hid (RunD n R il I fuel most o) := hD
  have HSO : Hid (SmallO o) := run_small hD
  clear hA hI hB hsl hD
  by_cases hbig : 1048576 < il
  · have hbig' : (1048576 : Int) < (il : Int) := by omega
    go_enter Try.func10, Try.ntmps10
    go_wp2
    go_ret
    exact ⟨rfl, Below.refl _ _⟩
  have hbig' : ¬ (1048576 : Int) < (il : Int) := by omega
  have hil2 : il ≤ 1048576 := by omega
  clear hbig
  go_enter Try.func10, Try.ntmps10
  go_wp2_with fail
  refine (szInsS_any Q a n c R 1048576 _ HA.out (by omega) (by omega) hn HSL.out).mono ?_
  rintro e W0 ⟨⟨r, rfl, hr⟩, hb⟩
  have HP : Hid (0 ≤ r → SmallI n R) := hr.2
  have B0 : Hid (Below w.heap.size w W0) := hb
  clear hr hb hbig'
  by_cases hneg : r < 0
  · go_wp2
    go_ret
    exact ⟨rfl, B0.out⟩
  have hsm := HP.out (by omega)
  have hn2 : n ≤ 1048576 := hsm.1
  have HSM : Hid (SmallI n R) := hsm
  clear hsm HP
  go_wp2_with fail
  refine (toInsS_any Q a n c R _ (HA.out.later B0.out) HSM.out).mono ?_
  rintro e W1 ⟨⟨a1, c1, rfl, h1⟩, hb, hso⟩
  have B1 : Hid (Below w.heap.size w W1) := bel_tr B0.out hb
  have P1 : Hid (InsA (New W0 W1) W1 a1 n R) := h1
  clear h1 hb hso
  go_wp2_with fail
  refine (toByteS_any Q' ia il ic I _ (HI.out.later B1.out) hil2).mono ?_
  rintro e W2 ⟨⟨a2, c2, rfl, h2⟩, hb, hso⟩
  have B2 : Hid (Below w.heap.size w W2) := bel_tr B1.out hb
  have P2 : Hid (InsA (New W0 W1) W2 a1 n R) := P1.out.later hb
  have I2 : Hid (Ints (New W1 W2) .u8 W2 a2 il I) := h2
  clear h2 hb hso
  go_wp2_with fail
  refine (srun_any (New W0 W1) (New W1 W2) a1 n c1 R a2 il c2 I fuel most o _ P2.out HSM.out.2 hn2 I2.out HBY.out hil2 HD.out).mono ?_
  rintro e W3 ⟨e3, f3, v3, g3, rfl, h3, hb⟩
  have B3 : Hid (Below w.heap.size w W3) := bel_tr B2.out hb
  have O3 : Hid (OutA (New W2 W3) W3 o e3 v3) := h3
  clear h3 hb
  unfold outV
  go_wp2_with fail
  have hbx := blk_new W3 (.cells #[.int .i64 o.code, .int .i64 o.pos, .int .i64 o.label, .int .i64 o.far, .slice e3 o.en f3, .int .i64 o.steps, .int .i64 o.throws, .slice v3 o.vn g3] 60) _ rfl
  have hbX := bel1 W3 (.cells #[.int .i64 o.code, .int .i64 o.pos, .int .i64 o.label, .int .i64 o.far, .slice e3 o.en f3, .int .i64 o.steps, .int .i64 o.throws, .slice v3 o.vn g3] 60)
  generalize W3.alloc (.cells #[.int .i64 o.code, .int .i64 o.pos, .int .i64 o.label, .int .i64 o.far, .slice e3 o.en f3, .int .i64 o.steps, .int .i64 o.throws, .slice v3 o.vn g3] 60) = X3 at *
  have BX : Hid (Below W3.heap.size W3 X3) := hbX
  have X10 : Hid (X3.heap[W3.heap.size]? = some (.cells #[.int .i64 o.code, .int .i64 o.pos, .int .i64 o.label, .int .i64 o.far, .slice e3 o.en f3, .int .i64 o.steps, .int .i64 o.throws, .slice v3 o.vn g3] 60)) := hbx
  have BX3 : Hid (Below w.heap.size w X3) := bel_tr B3.out hbX
  have O3X : Hid (OutA (New W2 W3) X3 o e3 v3) := O3.out.later hbX
  have hs3 : W3.heap.size < X3.heap.size := (Array.getElem?_eq_some_iff.1 hbx).1
  clear hbx hbX
  refine (toInsS_any Q a n c R _ (HA.out.later BX3.out) HSM.out).mono ?_
  rintro e W4 ⟨⟨a4, c4, rfl, h4⟩, hb, hso⟩
  have B34 : Hid (Below X3.heap.size X3 W4) := hb
  have P4 : Hid (InsA (New X3 W4) W4 a4 n R) := h4
  have S4 : Hid (Soft X3 W4) := hso
  clear h4 hb hso
  go_wp2_with fail
  refine (toByteS_any Q' ia il ic I _ (HI.out.later (bel_tr BX3.out B34.out)) hil2).mono ?_
  rintro e W5 ⟨⟨a5, c5, rfl, h5⟩, hb, hso⟩
  have B45 : Hid (Below W4.heap.size W4 W5) := hb
  have P5 : Hid (InsA (New X3 W4) W5 a4 n R) := P4.out.later hb
  have I5 : Hid (Ints (New W4 W5) .u8 W5 a5 il I) := h5
  have S5 : Hid (Soft W4 W5) := hso
  clear h5 hb hso
  go_wp2_with fail
  refine (irun_any (New X3 W4) (New W4 W5) a4 n c4 R a5 il c5 I fuel most o _ P5.out HSM.out.2 hn2 I5.out HBY.out hil2 HD.out (fun y q => Nat.lt_of_lt_of_le q.2 B45.out.size) (fun y q => q.2)).mono ?_
  rintro e W6 ⟨e6, f6, v6, g6, Q1, Q2, rfl, h6, hq1, hq2, hb⟩
  have B56 : Hid (Below W5.heap.size W5 W6) := hb
  have O6 : Hid (OutW Q1 Q2 W6 o e6 v6) := h6
  have HQ : Hid ((∀ x, Q1 x → New W5 W6 x) ∧ ∀ x, Q2 x → New W5 W6 x) := ⟨hq1, hq2⟩
  clear h6 hb hq1 hq2
  unfold outV
  have hx10 : W6.heap[W3.heap.size]? = some (.cells #[.int .i64 o.code, .int .i64 o.pos, .int .i64 o.label, .int .i64 o.far, .slice e3 o.en f3, .int .i64 o.steps, .int .i64 o.throws, .slice v3 o.vn g3] 60) := ((bel_tr (bel_tr B34.out B45.out) B56.out).block W3.heap.size hs3).trans X10.out
  have hs36 : W3.heap.size < W6.heap.size := (Array.getElem?_eq_some_iff.1 hx10).1
  have hbx := blk_new W6 (.cells #[.int .i64 o.code, .int .i64 o.pos, .int .i64 o.label, .int .i64 o.far, .slice e6 o.en f6, .int .i64 o.steps, .int .i64 o.throws, .slice v6 o.vn g6] 60) _ rfl
  have hbX := bel1 W6 (.cells #[.int .i64 o.code, .int .i64 o.pos, .int .i64 o.label, .int .i64 o.far, .slice e6 o.en f6, .int .i64 o.steps, .int .i64 o.throws, .slice v6 o.vn g6] 60)
  have x0 := blk_cell (j := 0) hx10 rfl
  have x1 := blk_cell (j := 1) hx10 rfl
  have x2 := blk_cell (j := 2) hx10 rfl
  have x3 := blk_cell (j := 3) hx10 rfl
  have x4 := blk_cell (j := 4) hx10 rfl
  have x5 := blk_cell (j := 5) hx10 rfl
  have x6 := blk_cell (j := 6) hx10 rfl
  have x7 := blk_cell (j := 7) hx10 rfl
  clear hx10
  go_wp2_with fail
  generalize W6.alloc (.cells #[.int .i64 o.code, .int .i64 o.pos, .int .i64 o.label, .int .i64 o.far, .slice e6 o.en f6, .int .i64 o.steps, .int .i64 o.throws, .slice v6 o.vn g6] 60) = X6 at *
  have hs6 : W6.heap.size < X6.heap.size := (Array.getElem?_eq_some_iff.1 hbx).1
  have B6X : Hid (Below W6.heap.size W6 X6) := hbX
  have X13 : Hid (X6.heap[W6.heap.size]? = some (.cells #[.int .i64 o.code, .int .i64 o.pos, .int .i64 o.label, .int .i64 o.far, .slice e6 o.en f6, .int .i64 o.steps, .int .i64 o.throws, .slice v6 o.vn g6] 60)) := hbx
  have B3X : Hid (Below X3.heap.size X3 X6) := bel_tr (bel_tr (bel_tr B34.out B45.out) B56.out) hbX
  have X10' : Hid (X6.heap[W3.heap.size]? = some (.cells #[.int .i64 o.code, .int .i64 o.pos, .int .i64 o.label, .int .i64 o.far, .slice e3 o.en f3, .int .i64 o.steps, .int .i64 o.throws, .slice v3 o.vn g3] 60)) := (B3X.out.block W3.heap.size hs3).trans X10.out
  have BX6 : Hid (Below w.heap.size w X6) := bel_tr BX3.out B3X.out
  have O36 : Hid (OutA (New W2 W3) X6 o e3 v3) := O3X.out.later B3X.out
  have O6X : Hid (OutW Q1 Q2 X6 o e6 v6) := O6.out.on (fun x hx => hbX.block x (O6.out.lt x hx)) hbX.size
  have P6 : Hid (InsA (New X3 W4) X6 a4 n R) := P5.out.later (bel_tr B56.out hbX)
  have I6 : Hid (Ints (New W4 W5) .u8 X6 a5 il I) := I5.out.later (bel_tr B56.out hbX)
  have S6 : Hid (SoftQ (New X3 W4) X6 ∧ SoftQ (New W4 W5) X6) := ⟨fun x j hx => ((bel_tr (bel_tr B45.out B56.out) hbX).frozen (p := ⟨x, j, none⟩) hx.2).trans (S4.out x j hx.1 hx.2), fun x j hx => ((bel_tr B56.out hbX).frozen (p := ⟨x, j, none⟩) hx.2).trans (S5.out x j hx.1 hx.2)⟩
  have hz3 : X3.heap.size ≤ W4.heap.size := B34.out.size
  have hz4 : W4.heap.size ≤ W5.heap.size := B45.out.size
  have hz5 : W5.heap.size ≤ W6.heap.size := B56.out.size
  have HW3 : Hid (w.heap.size ≤ W3.heap.size) := B3.out.size
  clear hbx hbX x0 x1 x2 x3 x4 x5 x6 x7
  refine (eqOutcome_same _ _ e6 e3 v6 v3 f6 f3 g6 g3 o _ O6X.out.out O36.out HSO.out).mono ?_
  rintro e W7 ⟨⟨r7, rfl, hr7⟩, hb⟩
  obtain rfl : r7 = true := hr7.2 trivial
  have B7 : Hid (Below X6.heap.size X6 W7) := hb
  clear hb hr7
  go_wp2_with fail
  refine (toInsS_any Q a n c R _ (HA.out.later (bel_tr BX6.out B7.out)) HSM.out).mono ?_
  rintro e W8 ⟨⟨a8, c8, rfl, h8⟩, hb, hso⟩
  have B8 : Hid (Below X6.heap.size X6 W8) := bel_tr B7.out hb
  have P8 : Hid (InsA (New W7 W8) W8 a8 n R) := h8
  clear h8 hb hso
  go_wp2_with fail
  refine (eqInsS_same _ _ a4 a8 n c4 c8 R _ (P6.out.later B8.out) P8.out hn2 HSM.out.2).mono ?_
  rintro e W9 ⟨⟨r9, rfl, hr9⟩, hb⟩
  obtain rfl : r9 = true := hr9.2 trivial
  have B9 : Hid (Below X6.heap.size X6 W9) := bel_tr B8.out hb
  clear hb hr9
  go_wp2_with fail
  refine (toByteS_any Q' ia il ic I _ (HI.out.later (bel_tr BX6.out B9.out)) hil2).mono ?_
  rintro e W10 ⟨⟨a10, c10, rfl, h10⟩, hb, hso⟩
  have B10 : Hid (Below X6.heap.size X6 W10) := bel_tr B9.out hb
  have I10 : Hid (Ints (New W9 W10) .u8 W10 a10 il I) := h10
  clear h10 hb hso
  go_wp2_with fail
  refine (eqByteS_same _ _ a5 a10 il c5 c10 I _ (I6.out.later B10.out) I10.out hil2).mono ?_
  rintro e W11 ⟨⟨r11, rfl, hr11⟩, hb⟩
  obtain rfl : r11 = true := hr11.2 trivial
  have B11 : Hid (Below X6.heap.size X6 W11) := bel_tr B10.out hb
  have S11 : Hid (SoftQ (New X3 W4) W11 ∧ SoftQ (New W4 W5) W11) := ⟨fun x j hx => (B11.out.frozen (p := ⟨x, j, none⟩) (by show x < _; have := hx.2; omega)).trans (S6.out.1 x j hx), fun x j hx => (B11.out.frozen (p := ⟨x, j, none⟩) (by show x < _; have := hx.2; omega)).trans (S6.out.2 x j hx)⟩
  clear hb hr11
  go_wp2_with fail
  refine (markInsS_shape (New X3 W4) a4 n c4 R 1 _ (P6.out.later B11.out) HSM.out S11.out.1 (by omega) (by omega)).mono ?_
  rintro e W12 ⟨⟨r12, rfl, hr12, hr12'⟩, hk12⟩
  have K12 : Hid (Wrote (New X3 W4) W11 W12) := hk12
  have I12 : Hid (Ints (New W4 W5) .u8 W12 a5 il I) := (I6.out.later B11.out).on (fun x hx => hk12.block x (fun q => by have h1 := q.2; have h2 := hx.1; omega))
  have S12 : Hid (SoftQ (New W4 W5) W12) := S11.out.2.on hk12
  clear hk12
  go_wp2_with fail
  refine (markByteS_shape (New W4 W5) a5 il c5 I r12 _ I12.out S12.out hil2 (by omega) (by omega)).mono ?_
  rintro e W13 ⟨⟨r13, rfl, hr13, hr13'⟩, hk13⟩
  have K13 : Hid (∀ x, (x < X3.heap.size ∨ W5.heap.size ≤ x) → W13.heap[x]? = W11.heap[x]?) := fun x hx => (hk13.block x (fun q => by have h1 := q.1; have h2 := q.2; omega)).trans (K12.out.block x (fun q => by have h1 := q.1; have h2 := q.2; omega))
  have B13 : Hid (Below w.heap.size w W13) := bel_wrote (bel_wrote (bel_tr BX6.out B11.out) K12.out (fun x hx => by have h1 := hx.1; have h2 := HW3.out; omega)) hk13 (fun x hx => by have h1 := hx.1; have h2 := HW3.out; omega)
  have hz13 : W13.heap.size = W11.heap.size := hk13.size.trans K12.out.size
  have hz11 : X6.heap.size ≤ W11.heap.size := B11.out.size
  have O313 : Hid (OutA (New W2 W3) W13 o e3 v3) := (O36.out.later B11.out).on (fun x hx => K13.out x (.inl (by have h1 := hx.2; omega)))
  have O613 : Hid (OutW Q1 Q2 W13 o e6 v6) := O6X.out.on (fun x hx => (K13.out x (.inr (by rcases hx with q | q; exact (HQ.out.1 x q).1; exact (HQ.out.2 x q).1))).trans (B11.out.block x (O6X.out.lt x hx))) (by omega)
  have hx13 : W13.heap[W6.heap.size]? = some (.cells #[.int .i64 o.code, .int .i64 o.pos, .int .i64 o.label, .int .i64 o.far, .slice e6 o.en f6, .int .i64 o.steps, .int .i64 o.throws, .slice v6 o.vn g6] 60) := (K13.out _ (.inr hz5)).trans ((B11.out.block _ hs6).trans X13.out)
  have hx10 : W13.heap[W3.heap.size]? = some (.cells #[.int .i64 o.code, .int .i64 o.pos, .int .i64 o.label, .int .i64 o.far, .slice e3 o.en f3, .int .i64 o.steps, .int .i64 o.throws, .slice v3 o.vn g3] 60) := (K13.out _ (.inl hs3)).trans ((B11.out.block _ (by omega)).trans X10'.out)
  have X1313 : Hid (W13.heap[W6.heap.size]? = some (.cells #[.int .i64 o.code, .int .i64 o.pos, .int .i64 o.label, .int .i64 o.far, .slice e6 o.en f6, .int .i64 o.steps, .int .i64 o.throws, .slice v6 o.vn g6] 60)) := hx13
  have X1013 : Hid (W13.heap[W3.heap.size]? = some (.cells #[.int .i64 o.code, .int .i64 o.pos, .int .i64 o.label, .int .i64 o.far, .slice e3 o.en f3, .int .i64 o.steps, .int .i64 o.throws, .slice v3 o.vn g3] 60)) := hx10
  have x0 := blk_cell (j := 0) hx13 rfl
  have x1 := blk_cell (j := 1) hx13 rfl
  have x2 := blk_cell (j := 2) hx13 rfl
  have x3 := blk_cell (j := 3) hx13 rfl
  have x4 := blk_cell (j := 4) hx13 rfl
  have x5 := blk_cell (j := 5) hx13 rfl
  have x6 := blk_cell (j := 6) hx13 rfl
  have x7 := blk_cell (j := 7) hx13 rfl
  have y0 := blk_cell (j := 0) hx10 rfl
  have y1 := blk_cell (j := 1) hx10 rfl
  have y2 := blk_cell (j := 2) hx10 rfl
  have y3 := blk_cell (j := 3) hx10 rfl
  have y4 := blk_cell (j := 4) hx10 rfl
  have y5 := blk_cell (j := 5) hx10 rfl
  have y6 := blk_cell (j := 6) hx10 rfl
  have y7 := blk_cell (j := 7) hx10 rfl
  have nneg : ¬ r13 < 0 := by omega
  clear hx13 hx10 hk13
  go_wp2_with fail
  refine (eqOutcome_same _ _ e6 e3 v6 v3 f6 f3 g6 g3 o _ O613.out.out O313.out HSO.out).mono ?_
  rintro e W14 ⟨⟨r14, rfl, hr14⟩, hb⟩
  obtain rfl : r14 = true := hr14.2 trivial
  have B14 : Hid (Below w.heap.size w W14) := bel_tr B13.out hb
  have O614 : Hid (OutW Q1 Q2 W14 o e6 v6) := O613.out.on (fun x hx => hb.block x (O613.out.lt x hx)) hb.size
  have O314 : Hid (OutA (New W2 W3) W14 o e3 v3) := O313.out.later hb
  have hz14 : W13.heap.size ≤ W14.heap.size := hb.size
  have hx13 : W14.heap[W6.heap.size]? = some (.cells #[.int .i64 o.code, .int .i64 o.pos, .int .i64 o.label, .int .i64 o.far, .slice e6 o.en f6, .int .i64 o.steps, .int .i64 o.throws, .slice v6 o.vn g6] 60) := (hb.block _ (by omega)).trans X1313.out
  have X1314 : Hid (W14.heap[W6.heap.size]? = some (.cells #[.int .i64 o.code, .int .i64 o.pos, .int .i64 o.label, .int .i64 o.far, .slice e6 o.en f6, .int .i64 o.steps, .int .i64 o.throws, .slice v6 o.vn g6] 60)) := hx13
  have X1014 : Hid (W14.heap[W3.heap.size]? = some (.cells #[.int .i64 o.code, .int .i64 o.pos, .int .i64 o.label, .int .i64 o.far, .slice e3 o.en f3, .int .i64 o.steps, .int .i64 o.throws, .slice v3 o.vn g3] 60)) := (hb.block _ (by omega)).trans X1013.out
  clear x0 x1 x2 x3 x4 x5 x6 x7 y0 y1 y2 y3 y4 y5 y6 y7 hb hr14
  have x0 := blk_cell (j := 0) hx13 rfl
  have x1 := blk_cell (j := 1) hx13 rfl
  have x2 := blk_cell (j := 2) hx13 rfl
  have x3 := blk_cell (j := 3) hx13 rfl
  have x4 := blk_cell (j := 4) hx13 rfl
  have x5 := blk_cell (j := 5) hx13 rfl
  have x6 := blk_cell (j := 6) hx13 rfl
  have x7 := blk_cell (j := 7) hx13 rfl
  clear hx13
  go_wp2_with fail
  refine (markOutcome_exact Q1 Q2 e6 v6 f6 g6 o _ O614.out HSO.out).mono ?_
  rintro e W15 ⟨rfl, hli, hsz, hos, htp, hou, hbk⟩
  have B15 : Hid (Below w.heap.size w W15) := ⟨hos.trans B14.out.os, htp.trans B14.out.tape, hou.trans B14.out.output, Nat.le_trans B14.out.size hsz, fun x hx => (hbk x (by have h1 := B14.out.size; omega) (fun q => by have h2 := HW3.out; rcases q with q | q; (have h1 := (HQ.out.1 x q).1; omega); (have h1 := (HQ.out.2 x q).1; omega))).trans (B14.out.block x hx)⟩
  have M15 : Hid (OutA (fun x => Q1 x ∨ Q2 x) W15 (mkO 1 o) e6 v6) := hli
  have O315 : Hid (OutA (New W2 W3) W15 o e3 v3) := O314.out.on (fun x hx => hbk x (by have h1 := hx.2; omega) (fun q => by have h2 := hx.2; rcases q with q | q; (have h1 := (HQ.out.1 x q).1; omega); (have h1 := (HQ.out.2 x q).1; omega)))
  have hx13 : W15.heap[W6.heap.size]? = some (.cells #[.int .i64 o.code, .int .i64 o.pos, .int .i64 o.label, .int .i64 o.far, .slice e6 o.en f6, .int .i64 o.steps, .int .i64 o.throws, .slice v6 o.vn g6] 60) := (hbk _ (by omega) (fun q => by rcases q with q | q; (have h1 := (HQ.out.1 _ q).2; omega); (have h1 := (HQ.out.2 _ q).2; omega))).trans X1314.out
  have X1015 : Hid (W15.heap[W3.heap.size]? = some (.cells #[.int .i64 o.code, .int .i64 o.pos, .int .i64 o.label, .int .i64 o.far, .slice e3 o.en f3, .int .i64 o.steps, .int .i64 o.throws, .slice v3 o.vn g3] 60)) := (hbk _ (by omega) (fun q => by rcases q with q | q; (have h1 := (HQ.out.1 _ q).1; omega); (have h1 := (HQ.out.2 _ q).1; omega))).trans X1014.out
  clear x0 x1 x2 x3 x4 x5 x6 x7 hli hos htp hou hbk
  have x0 := blk_cell (j := 0) hx13 rfl
  have x1 := blk_cell (j := 1) hx13 rfl
  have x2 := blk_cell (j := 2) hx13 rfl
  have x3 := blk_cell (j := 3) hx13 rfl
  have x4 := blk_cell (j := 4) hx13 rfl
  have x5 := blk_cell (j := 5) hx13 rfl
  have x6 := blk_cell (j := 6) hx13 rfl
  have x7 := blk_cell (j := 7) hx13 rfl
  clear hx13
  go_wp2_with fail
  refine (heldOutcome_any _ e6 v6 f6 g6 o _ M15.out HSO.out).mono ?_
  rintro e W16 ⟨rfl, hb⟩
  have B16 : Hid (Below w.heap.size w W16) := bel_tr B15.out hb
  have O316 : Hid (OutA (New W2 W3) W16 o e3 v3) := O315.out.later hb
  have X1016 : Hid (W16.heap[W3.heap.size]? = some (.cells #[.int .i64 o.code, .int .i64 o.pos, .int .i64 o.label, .int .i64 o.far, .slice e3 o.en f3, .int .i64 o.steps, .int .i64 o.throws, .slice v3 o.vn g3] 60)) := (hb.block _ (by omega)).trans X1015.out
  have nneg2 : ¬ (1 + (o.en : Int) + 3 * (o.vn : Int) < 0) := by omega
  have tm := ine (1 + (o.en : Int) + 3 * (o.vn : Int))
  clear x0 x1 x2 x3 x4 x5 x6 x7 hb
  go_wp2_with fail
  refine (toInsS_any Q a n c R _ (HA.out.later B16.out) HSM.out).mono ?_
  rintro e W17 ⟨⟨a17, c17, rfl, h17⟩, hb, hso⟩
  have B17 : Hid (Below W16.heap.size W16 W17) := hb
  have P17 : Hid (InsA (New W16 W17) W17 a17 n R) := h17
  clear h17 hb hso
  go_wp2_with fail
  refine (toByteS_any Q' ia il ic I _ (HI.out.later (bel_tr B16.out B17.out)) hil2).mono ?_
  rintro e W18 ⟨⟨a18, c18, rfl, h18⟩, hb, hso⟩
  have B18 : Hid (Below W16.heap.size W16 W18) := bel_tr B17.out hb
  have P18 : Hid (InsA (New W16 W17) W18 a17 n R) := P17.out.later hb
  have I18 : Hid (Ints (New W17 W18) .u8 W18 a18 il I) := h18
  have hz18 : W17.heap.size ≤ W18.heap.size := hb.size
  clear h18 hb hso
  go_wp2_with fail
  refine (irun_any (New W16 W17) (New W17 W18) a17 n c17 R a18 il c18 I fuel most o _ P18.out HSM.out.2 hn2 I18.out HBY.out hil2 HD.out (fun y q => Nat.lt_of_lt_of_le q.2 hz18) (fun y q => q.2)).mono ?_
  rintro e W19 ⟨e19, f19, v19, g19, Q3, Q4, rfl, h19, hq3, hq4, hb⟩
  have B19 : Hid (Below W16.heap.size W16 W19) := bel_tr B18.out hb
  have O19 : Hid (OutW Q3 Q4 W19 o e19 v19) := h19
  have O319 : Hid (OutA (New W2 W3) W19 o e3 v3) := O316.out.later B19.out
  have hs16 : W3.heap.size < W16.heap.size := (Array.getElem?_eq_some_iff.1 X1016.out).1
  have hx10 : W19.heap[W3.heap.size]? = some (.cells #[.int .i64 o.code, .int .i64 o.pos, .int .i64 o.label, .int .i64 o.far, .slice e3 o.en f3, .int .i64 o.steps, .int .i64 o.throws, .slice v3 o.vn g3] 60) := (B19.out.block _ hs16).trans X1016.out
  have hs19 : W3.heap.size < W19.heap.size := (Array.getElem?_eq_some_iff.1 hx10).1
  have y0 := blk_cell (j := 0) hx10 rfl
  have y1 := blk_cell (j := 1) hx10 rfl
  have y2 := blk_cell (j := 2) hx10 rfl
  have y3 := blk_cell (j := 3) hx10 rfl
  have y4 := blk_cell (j := 4) hx10 rfl
  have y5 := blk_cell (j := 5) hx10 rfl
  have y6 := blk_cell (j := 6) hx10 rfl
  have y7 := blk_cell (j := 7) hx10 rfl
  clear h19 hq3 hq4 hb hx10
  unfold outV
  go_wp2_with fail
  have hbX := bel1 W19 (.cells #[.int .i64 o.code, .int .i64 o.pos, .int .i64 o.label, .int .i64 o.far, .slice e19 o.en f19, .int .i64 o.steps, .int .i64 o.throws, .slice v19 o.vn g19] 60)
  refine (eqOutcome_same _ _ e19 e3 v19 v3 f19 f3 g19 g3 o _ (O19.out.on (fun x hx => hbX.block x (O19.out.lt x hx)) hbX.size).out (O319.out.later hbX) HSO.out).mono ?_
  rintro e W20 ⟨⟨r20, rfl, hr20⟩, hb⟩
  obtain rfl : r20 = true := hr20.2 trivial
  have B20 : Hid (Below w.heap.size w W20) := bel_tr (bel_tr (bel_tr B16.out B19.out) hbX) hb
  clear hb hr20 hbX
  go_wp2
  go_ret
  exact ⟨rfl, B20.out⟩

set_option maxRecDepth 100000 in
theorem lifted (os : Os) (started : os.Started) (H : Type) (enc : TypeId × Value → H) :
    ReturnsInHanded {} Try.checked os 10 .any (Rows.fnExactRunSpec.pre6 enc Try.prog Try.f10 Rows.fnExactRunRow.domain false) (Rows.fnExactRunSpec.post enc Try.prog Try.f10 false true false false) := by
  refine returnsInHanded_of_change (C := Try.checked) own started (by kernel_rfl) Try.func10
    (ChangeSpec.witness6 (enc := enc) (C := Try.checked) false ⟨#[], #[.slice none 0 0, .slice none 0 0, .int .i64 0, .int .i64 0], []⟩ 8 (by kernel_rfl) (by kernel_rfl) (by kernel_rfl) (by kernel_rfl)) ?_
  intro W base args ds gs before hval0 hW hcnd _
  have hval : ∀ (j : Nat) t v, Try.f10.params[j]? = some t → args[j]? = some v → Value.okWide Try.prog W .any base t v := hval0
  have hW' := hW
  obtain ⟨p, q, hA0, hV, rfl, hfz, hnd⟩ := hW
  have hA : DataW.TrodAll enc Try.prog W 0 (fun _ => true) true Try.f10.params.toList args.toList ds p := hA0
  rw [Try.params10] at hA hval
  obtain ⟨v0, vs0, d0, ds0, p0, q0, hargs, rfl, rfl, h0, r0⟩ := trodAll_cons hA
  obtain ⟨v1, vs1, d1, ds1, p1, q1, rfl, rfl, rfl, h1, r1⟩ := trodAll_cons r0
  obtain ⟨v2, vs2, d2, ds2, p2, q2, rfl, rfl, rfl, h2, r2⟩ := trodAll_cons r1
  obtain ⟨v3, vs3, d3, ds3, p3, q3, rfl, rfl, rfl, h3, r3⟩ := trodAll_cons r2
  obtain ⟨rfl, rfl, rfl⟩ := trodAll_nil r3
  obtain rfl : args = #[v0, v1, v2, v3] := by cases args; simp_all
  obtain ⟨rfl, rfl⟩ := trodVars_none hV
  obtain ⟨a0, len0, cap0, rfl⟩ := okWide_slice Try.underlying55 (hval 0 55 v0 rfl rfl)
  obtain ⟨a1, len1, cap1, rfl⟩ := okWide_slice Try.underlying22 (hval 1 22 v1 rfl rfl)
  have k0 := h0
  have lt0 : ∀ x ∈ p0, x.block < W.heap.size := by obtain ⟨m, hm⟩ := k0; exact DataW.trod_lt m _ _ _ hm
  have k1 := h1
  have lt1 : ∀ x ∈ p1, x.block < W.heap.size := by obtain ⟨m, hm⟩ := k1; exact DataW.trod_lt m _ _ _ hm
  obtain ⟨R, hR, hn, hsl⟩ : ∃ R : Nat → InsD, InsA Any W a0 len0 R ∧ len0 ≤ 9223372036854775807 ∧ ∀ i, i < len0 → (R i).sl ≤ 9223372036854775807 := by
    obtain ⟨fuel, hf⟩ := h0
    obtain ⟨a, n, c, R, e, hR, hn, hsl⟩ := arg_ins hf
    simp [Value.cells] at e
    obtain ⟨rfl, rfl, rfl⟩ := e
    exact ⟨R, hR, hn, hsl⟩
  obtain ⟨I, hI, hil, hB⟩ : ∃ I : Nat → Int, Ints Any .u8 W a1 len1 I ∧ len1 ≤ 9223372036854775807 ∧ Byt len1 I := by
    obtain ⟨fuel, hf⟩ := h1
    obtain ⟨a, n, c, I, e, hI, hn, hwf⟩ := arg_ints Try.underlying22 Try.underlying5 cellsU8 hf
    simp [Value.cells] at e
    obtain ⟨rfl, rfl, rfl⟩ := e
    exact ⟨I, hI, hn, fun i hi => bounds_u8 (hwf i hi)⟩
  obtain ⟨z2, rfl, rfl, rfl, w2⟩ := open_int Try.underlying3 (hval 2 3 v2 rfl rfl) h2
  obtain ⟨z3, rfl, rfl, rfl, w3⟩ := open_int Try.underlying3 (hval 3 3 v3 rfl rfl) h3
  clear hA0 hval0
  refine (walk Any Any a0 len0 cap0 R a1 len1 cap1 I z2 z3 W hR hn hsl hI hil hB).mono fun e W' ⟨he, bel⟩ => ?_
  subst he
  exact ⟨_, rfl, _, _, _, [], _, [], hW', trodAll_mk1 (shut_bool Try.underlying4 _), (trodAll_cons_mk (Below.trod laidOut (by kernel_rfl) (of_decide_eq_true (by kernel_rfl)) k0 bel lt0) (trodAll_cons_mk (Below.trod laidOut (by kernel_rfl) (of_decide_eq_true (by kernel_rfl)) k1 bel lt1) (trodAll_cons_mk (shut_int Try.underlying3 w2) (trodAll_cons_mk (shut_int Try.underlying3 w3) trodAll_mk0)))), rfl, bel.frame _, fun h => by cases h⟩

theorem over : Rows.fnExactRunRow.holds Try.pinned (OpenSpec.ofChange Rows.fnExactRunSpec) :=
  OpenClaim.holds_of_wide 10 Try.f10 rfl rfl rfl rfl rfl rfl rfl ⟨rfl, rfl, rfl, rfl, rfl⟩ rfl rfl rfl rfl rfl (by kernel_rfl) Try.func10 (by kernel_rfl)
    (of_decide_eq_true (by kernel_rfl)) (by unfold Func.isWrapper; first | (rw [if_pos (by decide +kernel)]; kernel_rfl) | (rw [if_neg (by decide +kernel)]; exact ⟨rfl, rfl⟩))
    (fun os started H enc _ => lifted os started H enc)

end Go.Proofs.Ytcmcbemcfjbchab.fnExactRun
namespace Go.Proofs.Ytcmcbemcfjbchab
/-- The statement. -/
theorem fnExactRun_holds : Rows.FnExactRunSaid := fnExactRun.over
#print axioms fnExactRun_holds
end Go.Proofs.Ytcmcbemcfjbchab
