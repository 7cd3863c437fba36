/-
  Walks: copies of lists of rules and labels, of a grammar.
-/
import Derived.Test.YtjndcajblpgjmaaCopyN
namespace Go.Proofs.Ytjndcajblpgjmaa
open Go.RowKit
open M (OpD NodeD Gr)
set_option linter.unusedVariables false

theorem info76 : (Try.prog.info? 76).map (fun i => (i.zero, i.size, i.bytes)) = some (some (.agg #[.slice none 0 0, .slice none 0 0]), 2, 48) := by kernel_rfl
theorem info80 : (Try.prog.info? 80).map (fun i => (i.zero, i.size, i.bytes)) = some (some (.agg #[.slice none 0 0, .bool false, .slice none 0 0]), 3, 56) := by kernel_rfl
theorem make76 (n : Nat) (hn : n ≤ 1048576) (w : World) : (Instr.makeSlice 33 (.int .i64 (n : Int)) (.int .i64 (n : Int))).run Try.prog w = .ok (.slice (some ⟨w.heap.size, 0, none⟩) n n) (w.alloc (.cells (madeCells #[.slice none 0 0, .slice none 0 0] (n * 2)) 76)) := by
  obtain ⟨i, hi, hzz⟩ := Option.map_eq_some_iff.1 info76
  simp only [Prod.mk.injEq] at hzz
  obtain ⟨hz, hs, hb⟩ := hzz
  have hr := run_make (P := Try.prog) w 33 76 i _ Try.underlying33 hi hz .i64 .i64 n n (by omega) (Int.le_refl _) (by rw [hb]; omega) (by omega)
  simp only [Int.toNat_natCast, hs] at hr
  exact hr
theorem make80 (n : Nat) (hn : n ≤ 1048576) (w : World) : (Instr.makeSlice 34 (.int .i64 (n : Int)) (.int .i64 (n : Int))).run Try.prog w = .ok (.slice (some ⟨w.heap.size, 0, none⟩) n n) (w.alloc (.cells (madeCells #[.slice none 0 0, .bool false, .slice none 0 0] (n * 3)) 80)) := by
  obtain ⟨i, hi, hzz⟩ := Option.map_eq_some_iff.1 info80
  simp only [Prod.mk.injEq] at hzz
  obtain ⟨hz, hs, hb⟩ := hzz
  have hr := run_make (P := Try.prog) w 34 80 i _ Try.underlying34 hi hz .i64 .i64 n n (by omega) (Int.le_refl _) (by rw [hb]; omega) (by omega)
  simp only [Int.toNat_natCast, hs] at hr
  exact hr

/-- Two stores in a row. -/
def put2 (w : World) (b o : Nat) (v0 v1 : Value) : World := (w.setCell ⟨b, o, none⟩ v0).setCell ⟨b, o + 1, none⟩ v1
theorem put2_cells {w : World} {b o n : Nat} {t : TypeId} {v0 v1 : Value} (h : Row w b t n) (hn : o + 1 < n) :
    (put2 w b o v0 v1).cell? ⟨b, o, none⟩ = some v0 ∧ (put2 w b o v0 v1).cell? ⟨b, o + 1, none⟩ = some v1 := by
  obtain ⟨u0, h0⟩ := h.cell (i := o) (by omega)
  obtain ⟨u1, h1⟩ := (h.set o v0).cell (i := o + 1) (by omega)
  unfold put2
  exact ⟨by rw [cell_set_other (by omega)]; exact cell_set_same h0, cell_set_same h1⟩
theorem put2_other {w : World} {b o j : Nat} {v0 v1 : Value} (h : j < o ∨ o + 1 < j) : (put2 w b o v0 v1).cell? ⟨b, j, none⟩ = w.cell? ⟨b, j, none⟩ := by
  unfold put2
  rw [cell_set_other (by omega), cell_set_other (by omega)]
theorem put2_stay {Q : Nat → Prop} {w : World} {b o : Nat} {v0 v1 : Value} (h : ¬ Q b) : Stay Q w (put2 w b o v0 v1) := (stay_set _ ⟨b, o, none⟩ _ h).trans (stay_set _ ⟨b, o + 1, none⟩ _ h)
theorem put2_row {w : World} {b o n : Nat} {t : TypeId} {v0 v1 : Value} (h : Row w b t n) : Row (put2 w b o v0 v1) b t n := (h.set _ _).set _ _
theorem put2_size (w : World) (b o : Nat) (v0 v1 : Value) : (put2 w b o v0 v1).heap.size = w.heap.size := by simp [put2, World.setCell]
theorem put2_soft {w W : World} (h : Soft w W) (b o : Nat) (v0 v1 : Value) : Soft w (put2 W b o v0 v1) := (h.set _ _).set _ _
theorem put2_bel {w W : World} (h : Below w.heap.size w W) (b o : Nat) (v0 v1 : Value) (hb : w.heap.size ≤ b) : Below w.heap.size w (put2 W b o v0 v1) := bel_set (bel_set h _ _ _ hb) _ _ _ hb

theorem RuleC.put {Q : Nat → Prop} {w : World} {b o o' : Nat} {d : NodeD} {v0 v1 : Value} (h : RuleC Q w b o d) (hq : ¬ Q b) (ho : o + 1 < o' ∨ o' + 1 < o) : RuleC Q (put2 w b o' v0 v1) b o d := by
  obtain ⟨⟨a, c, h1, h2⟩, ⟨a', c', h3, h4⟩⟩ := h
  exact ⟨⟨a, c, (put2_other (by omega)).trans h1, h2.on (put2_stay hq)⟩, ⟨a', c', (put2_other (by omega)).trans h3, h4.on (put2_stay hq)⟩⟩
theorem LabC.put {Q : Nat → Prop} {w : World} {b o o' : Nat} {d : NodeD} {v0 v1 v2 : Value} (h : LabC Q w b o d) (hq : ¬ Q b) (ho : o + 2 < o' ∨ o' + 2 < o) : LabC Q (put3 w b o' v0 v1 v2) b o d := by
  obtain ⟨⟨a, c, h1, h2⟩, h0, ⟨a', c', h3, h4⟩⟩ := h
  exact ⟨⟨a, c, (put3_other (by omega)).trans h1, h2.on (put3_stay hq)⟩, (put3_other (by omega)).trans h0, ⟨a', c', (put3_other (by omega)).trans h3, h4.on (put3_stay hq)⟩⟩

def toRuleSI (w : World) (n : Nat) (R : Nat → NodeD) (i : Value) (wr : World) : Prop :=
  ∃ m : Nat, m ≤ n ∧ i = .int .i64 (m : Int) ∧ Row wr w.heap.size 76 (n * 2) ∧ (∀ j, j < m → RuleC (fun b => w.heap.size < b ∧ b < wr.heap.size) wr w.heap.size (0 + j * 2) (R j)) ∧ Below w.heap.size w wr ∧ w.heap.size < wr.heap.size ∧ Soft w wr

set_option maxHeartbeats 2000000 in
theorem toRuleS_any (Q : Nat → Prop) (a : Option Addr) (n c : Nat) (R : Nat → NodeD) (w : World) (hR : RulesA Q w a n R) (hn : n ≤ 1048576) (hs : ∀ i, i < n → SmallN (R i)) :
    Calls Try.prog 56 #[.slice a n c] w (CpS (fun w' a => RulesA (New w w') w' a n R) n w) := by
  have hmk := make76 n hn
  have HR : Hid (RulesA Q w a n R) := hR
  have HSL : Hid (∀ i, i < n → SmallN (R i)) := hs
  clear hR hs
  go_enter Try.func56, Try.ntmps56
  go_wp2
  go_loopw [4] (fun i wr => toRuleSI w n R i wr) (fun i _ => n - (intOf i).toNat)
  case atStart => exact ⟨0, Nat.zero_le _, rfl, row_made w _ _ 76 (by simp), fun j hj => absurd hj (Nat.not_lt_zero _), bel1 w _, by simp, soft1 w _ 76⟩
  case round =>
    obtain ⟨m, hm, rfl, hrow, hops, hbel, hsz, hsoft⟩ := hrel
    by_cases hlt : m < n
    · have hR := HR.out.later hbel
      rcases hR with h0 | ⟨b, off, rfl, hq, hR⟩
      · omega
      obtain ⟨⟨na, nc, c0, hs1⟩, ⟨ba, bc, c2, hs2⟩⟩ := hR m hlt
      have HS1 : Hid (Ints Q .u8 wr na (R m).nl (R m).name) := hs1
      have HS2 : Hid (OpsA Q wr ba (R m).bl (R m).body) := hs2
      have HROW : Hid (Row wr w.heap.size 76 (n * 2)) := hrow
      have HOPS : Hid (∀ j, j < m → RuleC (fun b => w.heap.size < b ∧ b < wr.heap.size) wr w.heap.size (0 + j * 2) (R j)) := hops
      have HBE : Hid (Below w.heap.size w wr) := hbel
      have HSO : Hid (Soft w wr) := hsoft
      clear hR hs1 hs2 hrow hops hbel hsoft hmk
      go_wp2_with fail
      refine (toRule_any Q na ba nc bc (R m) _ HS1.out HS2.out (HSL.out m hlt)).mono ?_
      rintro e W ⟨⟨na', nc', ba', bc', rfl, hI, hO⟩, hb, hso⟩
      have hrw : Row W w.heap.size 76 (n * 2) := HROW.out.of_block (hb.block _ hsz)
      obtain ⟨u0, r0⟩ := hrw.cell (i := m * 2) (by omega)
      have f0 := hrw.frozen (m * 2)
      obtain ⟨u1, r1⟩ := hrw.cell (i := m * 2 + 1) (by omega)
      have f1 := hrw.frozen (m * 2 + 1)
      have HRW : Hid (Row W w.heap.size 76 (n * 2)) := hrw
      have HB2 : Hid (Below wr.heap.size wr W) := hb
      have HSO2 : Hid (Soft wr W) := hso
      have HI : Hid (Ints (New wr W) .u8 W na' (R m).nl (R m).name) := hI
      have HO : Hid (OpsA (New wr W) W ba' (R m).bl (R m).body) := hO
      clear hrw hb hso hI hO
      go_wp2
      go_roundw
      case rel =>
        show toRuleSI w n R _ (put2 W w.heap.size (m * 2) _ _)
        have hsz2 := HB2.out.size
        obtain ⟨p0, p1⟩ := put2_cells (v0 := .slice na' (R m).nl nc') (v1 := .slice ba' (R m).bl bc') HRW.out (o := m * 2) (by omega)
        refine ⟨m + 1, by omega, by go_num, put2_row HRW.out, all_snoc (fun j hj => ?_) ?_, put2_bel (bel_tr HBE.out HB2.out) _ _ _ _ (Nat.le_refl _), by rw [put2_size]; omega, put2_soft (HSO.out.trans HSO2.out HB2.out) _ _ _ _⟩
        · exact (((HOPS.out j hj).later HB2.out).put (fun h => by omega) (by omega)).wide (fun b hb => ⟨hb.1, by rw [put2_size]; omega⟩)
        · rw [Nat.zero_add]
          exact ⟨⟨na', nc', p0, (HI.out.on (put2_stay (fun h => by have := h.1; omega))).wide (fun b hb => ⟨by have := hb.1; omega, by rw [put2_size]; exact hb.2⟩)⟩, ⟨ba', bc', p1, (HO.out.on (put2_stay (fun h => by have := h.1; omega))).wide (fun b hb => ⟨by have := hb.1; omega, by rw [put2_size]; exact hb.2⟩)⟩⟩
      case measure => simp [intOf]; omega
    · obtain rfl : m = n := by omega
      go_wp2
      go_ret
      refine ⟨⟨_, _, rfl, .inr ⟨w.heap.size, 0, rfl, ⟨Nat.le_refl _, hsz⟩, fun i hi => ?_⟩⟩, hbel, hsoft⟩
      exact (hops i hi).wide (fun b hb => ⟨by omega, hb.2⟩)

def toLabelSI (w : World) (n : Nat) (R : Nat → NodeD) (i : Value) (wr : World) : Prop :=
  ∃ m : Nat, m ≤ n ∧ i = .int .i64 (m : Int) ∧ Row wr w.heap.size 80 (n * 3) ∧ (∀ j, j < m → LabC (fun b => w.heap.size < b ∧ b < wr.heap.size) wr w.heap.size (0 + j * 3) (R j)) ∧ Below w.heap.size w wr ∧ w.heap.size < wr.heap.size ∧ Soft w wr

set_option maxHeartbeats 2000000 in
theorem toLabelS_any (Q : Nat → Prop) (a : Option Addr) (n c : Nat) (R : Nat → NodeD) (w : World) (hR : LabsA Q w a n R) (hn : n ≤ 1048576) (hs : ∀ i, i < n → SmallN (R i)) :
    Calls Try.prog 57 #[.slice a n c] w (CpS (fun w' a => LabsA (New w w') w' a n R) n w) := by
  have hmk := make80 n hn
  have HR : Hid (LabsA Q w a n R) := hR
  have HSL : Hid (∀ i, i < n → SmallN (R i)) := hs
  clear hR hs
  go_enter Try.func57, Try.ntmps57
  go_wp2
  go_loopw [4] (fun i wr => toLabelSI w n R i wr) (fun i _ => n - (intOf i).toNat)
  case atStart => exact ⟨0, Nat.zero_le _, rfl, row_made w _ _ 80 (by simp), fun j hj => absurd hj (Nat.not_lt_zero _), bel1 w _, by simp, soft1 w _ 80⟩
  case round =>
    obtain ⟨m, hm, rfl, hrow, hops, hbel, hsz, hsoft⟩ := hrel
    by_cases hlt : m < n
    · have hR := HR.out.later hbel
      rcases hR with h0 | ⟨b, off, rfl, hq, hR⟩
      · omega
      obtain ⟨⟨na, nc, c0, hs1⟩, c1, ⟨ba, bc, c2, hs2⟩⟩ := hR m hlt
      have HS1 : Hid (Ints Q .u8 wr na (R m).nl (R m).name) := hs1
      have HS2 : Hid (OpsA Q wr ba (R m).bl (R m).body) := hs2
      have HROW : Hid (Row wr w.heap.size 80 (n * 3)) := hrow
      have HOPS : Hid (∀ j, j < m → LabC (fun b => w.heap.size < b ∧ b < wr.heap.size) wr w.heap.size (0 + j * 3) (R j)) := hops
      have HBE : Hid (Below w.heap.size w wr) := hbel
      have HSO : Hid (Soft w wr) := hsoft
      clear hR hs1 hs2 hrow hops hbel hsoft hmk
      go_wp2_with fail
      refine (toLabel_any Q na ba nc bc (R m) _ HS1.out HS2.out (HSL.out m hlt)).mono ?_
      rintro e W ⟨⟨na', nc', ba', bc', rfl, hI, hO⟩, hb, hso⟩
      have hrw : Row W w.heap.size 80 (n * 3) := HROW.out.of_block (hb.block _ hsz)
      obtain ⟨u0, r0⟩ := hrw.cell (i := m * 3) (by omega)
      have f0 := hrw.frozen (m * 3)
      obtain ⟨u1, r1⟩ := hrw.cell (i := m * 3 + 1) (by omega)
      have f1 := hrw.frozen (m * 3 + 1)
      obtain ⟨u2, r2⟩ := hrw.cell (i := m * 3 + 2) (by omega)
      have f2 := hrw.frozen (m * 3 + 2)
      have HRW : Hid (Row W w.heap.size 80 (n * 3)) := hrw
      have HB2 : Hid (Below wr.heap.size wr W) := hb
      have HSO2 : Hid (Soft wr W) := hso
      have HI : Hid (Ints (New wr W) .u8 W na' (R m).nl (R m).name) := hI
      have HO : Hid (OpsA (New wr W) W ba' (R m).bl (R m).body) := hO
      clear hrw hb hso hI hO
      go_wp2
      go_roundw
      case rel =>
        show toLabelSI w n R _ (put3 W w.heap.size (m * 3) _ _ _)
        have hsz2 := HB2.out.size
        obtain ⟨p0, p1, p2⟩ := put3_cells (v0 := .slice na' (R m).nl nc') (v1 := .bool (R m).has) (v2 := .slice ba' (R m).bl bc') HRW.out (o := m * 3) (by omega)
        refine ⟨m + 1, by omega, by go_num, put3_row HRW.out, all_snoc (fun j hj => ?_) ?_, put3_bel (bel_tr HBE.out HB2.out) _ _ _ _ _ (Nat.le_refl _), by rw [put3_size]; omega, put3_soft (HSO.out.trans HSO2.out HB2.out) _ _ _ _ _⟩
        · exact (((HOPS.out j hj).later HB2.out).put (fun h => by omega) (by omega)).wide (fun b hb => ⟨hb.1, by rw [put3_size]; omega⟩)
        · rw [Nat.zero_add]
          exact ⟨⟨na', nc', p0, (HI.out.on (put3_stay (fun h => by have := h.1; omega))).wide (fun b hb => ⟨by have := hb.1; omega, by rw [put3_size]; exact hb.2⟩)⟩, p1, ⟨ba', bc', p2, (HO.out.on (put3_stay (fun h => by have := h.1; omega))).wide (fun b hb => ⟨by have := hb.1; omega, by rw [put3_size]; exact hb.2⟩)⟩⟩
      case measure => simp [intOf]; omega
    · obtain rfl : m = n := by omega
      go_wp2
      go_ret
      refine ⟨⟨_, _, rfl, .inr ⟨w.heap.size, 0, rfl, ⟨Nat.le_refl _, hsz⟩, fun i hi => ?_⟩⟩, hbel, hsoft⟩
      exact (hops i hi).wide (fun b hb => ⟨by omega, hb.2⟩)

/-- A grammar, copied. -/
structure CpG (g : Gr) (w : World) (e : Ending) (w' : World) : Prop where
  val : ∃ ra rc la lc, e = .returned (.agg #[.slice ra g.nr rc, .slice la g.nb lc]) ∧ GramA (New w w') w' ra la g
  bel : Below w.heap.size w w'
  soft : Soft w w'

set_option maxHeartbeats 2000000 in
theorem toGrammar_any (Q : Nat → Prop) (ra la : Option Addr) (rc lc : Nat) (g : Gr) (w : World) (hG : GramA Q w ra la g) (hs : SmallG g) :
    Calls Try.prog 17 #[.agg #[.slice ra g.nr rc, .slice la g.nb lc]] w (CpG g w) := by
  have HG : Hid (GramA Q w ra la g) := hG
  have HD : Hid (SmallG g) := hs
  clear hG hs
  go_enter Try.func17, Try.ntmps17
  go_wp2_with fail
  refine (toRuleS_any Q ra g.nr rc g.rule _ (HG.out.rules.later (bel3 w _ _ _)) HD.out.nr HD.out.rule).mono ?_
  rintro e W ⟨⟨ra', rc', rfl, hI1⟩, hb, hso⟩
  have hsW : w.heap.size + 3 ≤ W.heap.size := by have := hb.size; simp at this; omega
  have xb := cell_on (a := ⟨w.heap.size, 1, none⟩) (v := .slice la g.nb lc) (cellOn _ (cellOn _ (cN w.heap.size rfl rfl))) hb
  have y0 := cell_on (a := ⟨w.heap.size + 1, 0, none⟩) (v := .slice none 0 0) (cellOn _ (cN (w.heap.size + 1) (by simp) rfl)) hb
  have y1 := cell_on (a := ⟨w.heap.size + 1, 1, none⟩) (v := .slice none 0 0) (cellOn _ (cN (w.heap.size + 1) (by simp) rfl)) hb
  have z0 := cell_on (a := ⟨w.heap.size + 1 + 1, 0, none⟩) (v := .slice none 0 0) (cN (w.heap.size + 1 + 1) (by simp) rfl) hb
  have z1 := cell_on (a := ⟨w.heap.size + 1 + 1, 1, none⟩) (v := .slice none 0 0) (cN (w.heap.size + 1 + 1) (by simp) rfl) hb
  have hbw : Below w.heap.size w W := bel_tr (bel3 w _ _ _) hb
  have hsw : Soft w W := (((soft1 w _ 30).trans (soft1 _ _ 36) (bel1 _ _)).trans (soft1 _ _ 36) (bel1 _ _)).trans hso hb
  have fz0 := hsw.fz (w.heap.size + 1 + 1) 0 (by omega) (by omega)
  have HI1 : Hid (RulesA (fun b => w.heap.size + 3 ≤ b ∧ b < W.heap.size) W ra' g.nr g.rule) := hI1.wide (fun b hb => ⟨by have := hb.1; simp at this; omega, hb.2⟩)
  have HBW : Hid (Below w.heap.size w W) := hbw
  have HSW : Hid (Soft w W) := hsw
  clear hb hso hI1 hbw hsw
  go_wp2_with fail
  obtain ⟨Y, hY⟩ : ∃ Y, W.setCell ⟨w.heap.size + 1 + 1, 0, none⟩ (.slice ra' g.nr rc') = Y := ⟨_, rfl⟩
  have sY : Y.heap.size = W.heap.size := by rw [← hY]; simp only [size_set]
  have bY : Below w.heap.size w Y := by rw [← hY]; exact bel_set HBW.out _ _ _ (by omega)
  have soY : Soft w Y := by rw [← hY]; exact HSW.out.set _ _
  have iY : RulesA (fun b => w.heap.size + 3 ≤ b ∧ b < W.heap.size) Y ra' g.nr g.rule := by rw [← hY]; exact HI1.out.on (stay_set _ _ _ (fun h => by have := h.1; simp at this <;> omega))
  have q0 : Y.cell? ⟨w.heap.size + 1 + 1, 0, none⟩ = some (.slice ra' g.nr rc') := by rw [← hY]; exact cell_set_same z0
  have q1 : Y.cell? ⟨w.heap.size + 1 + 1, 1, none⟩ = some (.slice none 0 0) := by rw [← hY, cell_set_other (by omega)]; exact z1
  have p0 : Y.cell? ⟨w.heap.size + 1, 0, none⟩ = some (.slice none 0 0) := by rw [← hY, cell_set_far (by omega)]; exact y0
  have p1 : Y.cell? ⟨w.heap.size + 1, 1, none⟩ = some (.slice none 0 0) := by rw [← hY, cell_set_far (by omega)]; exact y1
  rw [hY]
  clear hY y0 y1 z0 z1 HI1 HBW HSW fz0 xb
  refine (toLabelS_any Q la g.nb lc g.lab _ (HG.out.labs.later bY) HD.out.nb HD.out.lab).mono ?_
  rintro e V ⟨⟨la', lc', rfl, hO⟩, hb, hso⟩
  have hsV := hb.size
  replace q0 := cell_on q0 hb
  replace p0 := cell_on p0 hb
  replace q1 := cell_on q1 hb
  replace p1 := cell_on p1 hb
  have hsw : Soft w V := soY.trans hso hb
  have fp0 := hsw.fz (w.heap.size + 1) 0 (by omega) (by omega)
  have fp1 := hsw.fz (w.heap.size + 1) 1 (by omega) (by omega)
  have fq := hsw.fz (w.heap.size + 1 + 1) 1 (by omega) (by omega)
  have HN : Hid (RulesA (fun b => w.heap.size + 3 ≤ b ∧ b < V.heap.size) V ra' g.nr g.rule) := (iY.later hb).wide (fun b hb => ⟨hb.1, by omega⟩)
  have HO : Hid (LabsA (fun b => w.heap.size + 3 ≤ b ∧ b < V.heap.size) V la' g.nb g.lab) := hO.wide (fun b hb => ⟨by have := hb.1; omega, hb.2⟩)
  have HBV : Hid (Below w.heap.size w V) := bel_tr bY hb
  have HSV : Hid (Soft w V) := hsw
  clear hb hso hO hsw iY soY bY
  go_wp2
  refine bodyPost_ret (v := .agg #[.slice ra' g.nr rc', .slice la' g.nb lc']) ?_ rfl ?_
  · simp [results, Try.f17, go_sem, *]
  · refine ⟨⟨ra', rc', la', lc', rfl, ⟨?_, ?_⟩⟩, ?_, ?_⟩
    · refine RulesA.wide (Q := fun b => w.heap.size + 3 ≤ b ∧ b < V.heap.size) (HN.out.on ?_) (fun b hb => ⟨by omega, by simp only [size_set]; exact hb.2⟩)
      exact ((stay_set _ _ _ (fun h => by have := h.1; simp at this <;> omega)).trans (stay_set _ _ _ (fun h => by have := h.1; simp at this <;> omega))).trans (stay_set _ _ _ (fun h => by have := h.1; simp at this <;> omega))
    · refine LabsA.wide (Q := fun b => w.heap.size + 3 ≤ b ∧ b < V.heap.size) (HO.out.on ?_) (fun b hb => ⟨by omega, by simp only [size_set]; exact hb.2⟩)
      exact ((stay_set _ _ _ (fun h => by have := h.1; simp at this <;> omega)).trans (stay_set _ _ _ (fun h => by have := h.1; simp at this <;> omega))).trans (stay_set _ _ _ (fun h => by have := h.1; simp at this <;> omega))
    · exact bel_set (bel_set (bel_set HBV.out _ _ _ (by omega)) _ _ _ (by omega)) _ _ _ (by omega)
    · exact ((HSV.out.set _ _).set _ _).set _ _

end Go.Proofs.Ytjndcajblpgjmaa
