/-
  Copies of grammars: the bodies' lengths are within their capacities.
-/
import Derived.Test.YtjndcajblpgjmaaCopyG
namespace Go.Proofs.Ytjndcajblpgjmaa
open Go.RowKit
open M (OpD NodeD Gr)
set_option linter.unusedVariables false

structure RuleX (Q : Nat → Prop) (w : World) (b o : Nat) (d : NodeD) : Prop where
  c : RuleC Q w b o d
  cap : ∃ a c, w.cell? ⟨b, o + 1, none⟩ = some (.slice a d.bl c) ∧ d.bl ≤ c
structure LabX (Q : Nat → Prop) (w : World) (b o : Nat) (d : NodeD) : Prop where
  c : LabC Q w b o d
  cap : ∃ a c, w.cell? ⟨b, o + 2, none⟩ = some (.slice a d.bl c) ∧ d.bl ≤ c
def RulesX (Q : Nat → Prop) (w : World) (a : Option Addr) (n : Nat) (R : Nat → NodeD) : Prop :=
  n = 0 ∨ ∃ b off, a = some ⟨b, off, none⟩ ∧ Q b ∧ ∀ i, i < n → RuleX Q w b (off + i * 2) (R i)
def LabsX (Q : Nat → Prop) (w : World) (a : Option Addr) (n : Nat) (R : Nat → NodeD) : Prop :=
  n = 0 ∨ ∃ b off, a = some ⟨b, off, none⟩ ∧ Q b ∧ ∀ i, i < n → LabX Q w b (off + i * 3) (R i)
section
variable {Q Q' : Nat → Prop} {w w' : World}
theorem RuleX.on {b o : Nat} {d : NodeD} (h : RuleX Q w b o d) (hq : Q b) (t : Stay Q w w') : RuleX Q w' b o d :=
  ⟨h.c.on hq t, let ⟨a, c, h1, h2⟩ := h.cap; ⟨a, c, (t.cell hq).trans h1, h2⟩⟩
theorem RuleX.wide {b o : Nat} {d : NodeD} (h : RuleX Q w b o d) (t : ∀ b, Q b → Q' b) : RuleX Q' w b o d := ⟨h.c.wide t, h.cap⟩
theorem RuleX.later {b o : Nat} {d : NodeD} (h : RuleX Q w b o d) (t : Below w.heap.size w w') : RuleX Q w' b o d :=
  ⟨h.c.later t, let ⟨a, c, h1, h2⟩ := h.cap; ⟨a, c, cell_on h1 t, h2⟩⟩
theorem LabX.on {b o : Nat} {d : NodeD} (h : LabX Q w b o d) (hq : Q b) (t : Stay Q w w') : LabX Q w' b o d :=
  ⟨h.c.on hq t, let ⟨a, c, h1, h2⟩ := h.cap; ⟨a, c, (t.cell hq).trans h1, h2⟩⟩
theorem LabX.wide {b o : Nat} {d : NodeD} (h : LabX Q w b o d) (t : ∀ b, Q b → Q' b) : LabX Q' w b o d := ⟨h.c.wide t, h.cap⟩
theorem LabX.later {b o : Nat} {d : NodeD} (h : LabX Q w b o d) (t : Below w.heap.size w w') : LabX Q w' b o d :=
  ⟨h.c.later t, let ⟨a, c, h1, h2⟩ := h.cap; ⟨a, c, cell_on h1 t, h2⟩⟩
theorem RulesX.on {a : Option Addr} {n : Nat} {R : Nat → NodeD} (h : RulesX Q w a n R) (t : Stay Q w w') : RulesX Q w' a n R := by
  rcases h with h | ⟨b, off, e, hq, h⟩
  · exact .inl h
  · exact .inr ⟨b, off, e, hq, fun i hi => (h i hi).on hq t⟩
theorem RulesX.wide {a : Option Addr} {n : Nat} {R : Nat → NodeD} (h : RulesX Q w a n R) (t : ∀ b, Q b → Q' b) : RulesX Q' w a n R := by
  rcases h with h | ⟨b, off, e, hq, h⟩
  · exact .inl h
  · exact .inr ⟨b, off, e, t b hq, fun i hi => (h i hi).wide t⟩
theorem RulesX.later {a : Option Addr} {n : Nat} {R : Nat → NodeD} (h : RulesX Q w a n R) (t : Below w.heap.size w w') : RulesX Q w' a n R := by
  rcases h with h | ⟨b, off, e, hq, h⟩
  · exact .inl h
  · exact .inr ⟨b, off, e, hq, fun i hi => (h i hi).later t⟩
theorem LabsX.on {a : Option Addr} {n : Nat} {R : Nat → NodeD} (h : LabsX Q w a n R) (t : Stay Q w w') : LabsX Q w' a n R := by
  rcases h with h | ⟨b, off, e, hq, h⟩
  · exact .inl h
  · exact .inr ⟨b, off, e, hq, fun i hi => (h i hi).on hq t⟩
theorem LabsX.wide {a : Option Addr} {n : Nat} {R : Nat → NodeD} (h : LabsX Q w a n R) (t : ∀ b, Q b → Q' b) : LabsX Q' w a n R := by
  rcases h with h | ⟨b, off, e, hq, h⟩
  · exact .inl h
  · exact .inr ⟨b, off, e, t b hq, fun i hi => (h i hi).wide t⟩
theorem LabsX.later {a : Option Addr} {n : Nat} {R : Nat → NodeD} (h : LabsX Q w a n R) (t : Below w.heap.size w w') : LabsX Q w' a n R := by
  rcases h with h | ⟨b, off, e, hq, h⟩
  · exact .inl h
  · exact .inr ⟨b, off, e, hq, fun i hi => (h i hi).later t⟩
theorem RulesX.plain {a : Option Addr} {n : Nat} {R : Nat → NodeD} (h : RulesX Q w a n R) : RulesA Q w a n R := by
  rcases h with h | ⟨b, off, e, hq, h⟩
  · exact .inl h
  · exact .inr ⟨b, off, e, hq, fun i hi => (h i hi).c⟩
theorem LabsX.plain {a : Option Addr} {n : Nat} {R : Nat → NodeD} (h : LabsX Q w a n R) : LabsA Q w a n R := by
  rcases h with h | ⟨b, off, e, hq, h⟩
  · exact .inl h
  · exact .inr ⟨b, off, e, hq, fun i hi => (h i hi).c⟩
theorem RuleX.put {b o o' : Nat} {d : NodeD} {v0 v1 : Value} (h : RuleX Q w b o d) (hq : ¬ Q b) (ho : o + 1 < o' ∨ o' + 1 < o) : RuleX Q (put2 w b o' v0 v1) b o d :=
  ⟨h.c.put hq ho, let ⟨a, c, h1, h2⟩ := h.cap; ⟨a, c, (put2_other (by omega)).trans h1, h2⟩⟩
theorem LabX.put {b o o' : Nat} {d : NodeD} {v0 v1 v2 : Value} (h : LabX Q w b o d) (hq : ¬ Q b) (ho : o + 2 < o' ∨ o' + 2 < o) : LabX Q (put3 w b o' v0 v1 v2) b o d :=
  ⟨h.c.put hq ho, let ⟨a, c, h1, h2⟩ := h.cap; ⟨a, c, (put3_other (by omega)).trans h1, h2⟩⟩
end
structure GramX (Q : Nat → Prop) (w : World) (ra la : Option Addr) (g : Gr) : Prop where
  rules : RulesX Q w ra g.nr g.rule
  labs : LabsX Q w la g.nb g.lab
theorem GramX.plain {Q : Nat → Prop} {w : World} {ra la : Option Addr} {g : Gr} (h : GramX Q w ra la g) : GramA Q w ra la g := ⟨h.rules.plain, h.labs.plain⟩
theorem GramX.later {Q : Nat → Prop} {w w' : World} {ra la : Option Addr} {g : Gr} (h : GramX Q w ra la g) (t : Below w.heap.size w w') : GramX Q w' ra la g := ⟨h.rules.later t, h.labs.later t⟩

/-- A list, copied: its capacity is its length. -/
structure CpE (P : World → Option Addr → Prop) (n : Nat) (w : World) (e : Ending) (w' : World) : Prop where
  val : ∃ a, e = .returned (.slice a n n) ∧ P w' a
  bel : Below w.heap.size w w'
  soft : Soft w w'
structure CpM (mk : Value → Value → Value) (d : NodeD) (w : World) (e : Ending) (w' : World) : Prop where
  val : ∃ na nc ba, e = .returned (mk (.slice na d.nl nc) (.slice ba d.bl d.bl)) ∧ Ints (New w w') .u8 w' na d.nl d.name ∧ OpsA (New w w') w' ba d.bl d.body
  bel : Below w.heap.size w w'
  soft : Soft w w'

set_option maxHeartbeats 2000000 in
theorem toOpS_x (Q : Nat → Prop) (a : Option Addr) (n c : Nat) (B : Nat → OpD) (w : World) (hB : OpsA Q w a n B) (hs : SmallB n B) :
    Calls Try.prog 166 #[.slice a n c] w (CpE (fun w' a => OpsA (New w w') w' a n B) n w) := by
  obtain ⟨hn, hsl⟩ := hs
  have hmk := make95 n hn
  have HB : Hid (OpsA Q w a n B) := hB
  have HSL : Hid (∀ i, i < n → (B i).sl ≤ 1048576) := hsl
  clear hB hsl
  go_enter Try.func166, Try.ntmps166
  go_wp2
  go_loopw [4] (fun i wr => opsI w n B i wr) (fun i _ => n - (intOf i).toNat)
  case atStart => exact ⟨0, Nat.zero_le _, rfl, row_made w _ _ 95 (by simp), fun j hj => absurd hj (Nat.not_lt_zero _), bel1 w _, by simp, soft1 w _ 95⟩
  case round =>
    obtain ⟨m, hm, rfl, hrow, hops, hbel, hsz, hsoft⟩ := hrel
    by_cases hlt : m < n
    · have hB := HB.out.later hbel
      rcases hB with h0 | ⟨b, off, rfl, hq, hB⟩
      · omega
      obtain ⟨c0, ⟨sa, sc, c1, hs⟩, c2⟩ := hB m hlt
      have HS : Hid (Ints Q .i64 wr sa (B m).sl (B m).set) := hs
      have hsl := HSL.out m hlt
      have HROW : Hid (Row wr w.heap.size 95 (n * 3)) := hrow
      have HOPS : Hid (∀ j, j < m → OpC (fun b => w.heap.size < b ∧ b < wr.heap.size) wr w.heap.size (0 + j * 3) (B j)) := hops
      have HBE : Hid (Below w.heap.size w wr) := hbel
      have HSO : Hid (Soft w wr) := hsoft
      clear hB hs hrow hops hbel hsoft hmk
      go_wp2_with fail
      refine (toOp_any Q sa sc (B m) _ HS.out hsl).mono ?_
      rintro e W ⟨⟨a', c', rfl, hI⟩, hb, hso⟩
      have hrw : Row W w.heap.size 95 (n * 3) := HROW.out.of_block (hb.block _ hsz)
      obtain ⟨u0, r0⟩ := hrw.cell (i := m * 3) (by omega)
      obtain ⟨u1, r1⟩ := hrw.cell (i := m * 3 + 1) (by omega)
      obtain ⟨u2, r2⟩ := hrw.cell (i := m * 3 + 2) (by omega)
      have f0 := hrw.frozen (m * 3)
      have f1 := hrw.frozen (m * 3 + 1)
      have f2 := hrw.frozen (m * 3 + 2)
      have HRW : Hid (Row W w.heap.size 95 (n * 3)) := hrw
      have HB2 : Hid (Below wr.heap.size wr W) := hb
      have HSO2 : Hid (Soft wr W) := hso
      have HI : Hid (Ints (New wr W) .i64 W a' (B m).sl (B m).set) := hI
      clear hrw hb hso hI
      go_wp2
      go_roundw
      case rel =>
        show opsI w n B _ (put3 W w.heap.size (m * 3) _ _ _)
        have hsz2 := HB2.out.size
        obtain ⟨p0, p1, p2⟩ := put3_cells (v0 := .int .i64 (B m).kind) (v1 := .slice a' (B m).sl c') (v2 := .int .i64 (B m).arg) HRW.out (o := m * 3) (by omega)
        refine ⟨m + 1, by omega, by go_num, put3_row HRW.out, all_snoc (fun j hj => ?_) ?_, put3_bel (bel_tr HBE.out HB2.out) _ _ _ _ _ (Nat.le_refl _), by rw [put3_size]; omega, put3_soft (HSO.out.trans HSO2.out HB2.out) _ _ _ _ _⟩
        · exact (((HOPS.out j hj).later HB2.out).put (fun h => by omega) (by omega)).wide (fun b hb => ⟨hb.1, by rw [put3_size]; omega⟩)
        · rw [Nat.zero_add]
          exact ⟨p0, ⟨a', c', p1, (HI.out.on (put3_stay (fun h => by have := h.1; omega))).wide (fun b hb => ⟨by have := hb.1; omega, by rw [put3_size]; exact hb.2⟩)⟩, p2⟩
      case measure => simp [intOf]; omega
    · obtain rfl : m = n := by omega
      go_wp2
      go_ret
      refine ⟨⟨_, rfl, .inr ⟨w.heap.size, 0, rfl, ⟨Nat.le_refl _, hsz⟩, fun i hi => ?_⟩⟩, hbel, hsoft⟩
      exact (hops i hi).wide (fun b hb => ⟨by omega, hb.2⟩)

set_option maxHeartbeats 2000000 in
theorem toRule_x (Q : Nat → Prop) (na ba : Option Addr) (nc bc : Nat) (d : NodeD) (w : World) (hI : Ints Q .u8 w na d.nl d.name) (hB : OpsA Q w ba d.bl d.body) (hd : SmallN d) :
    Calls Try.prog 114 #[.agg #[.slice na d.nl nc, .slice ba d.bl bc]] w (CpM (fun x y => .agg #[x, y]) d w) := by
  have HI : Hid (Ints Q .u8 w na d.nl d.name) := hI
  have HB : Hid (OpsA Q w ba d.bl d.body) := hB
  have HD : Hid (SmallN d) := hd
  clear hI hB hd
  go_enter Try.func114, Try.ntmps114
  go_wp2_with fail
  refine (toByteS_any Q na d.nl nc d.name _ (HI.out.later (bel3 w _ _ _)) HD.out.name).mono ?_
  rintro e W ⟨⟨na', nc', rfl, hI1⟩, hb, hso⟩
  have hsW : w.heap.size + 3 ≤ W.heap.size := by have := hb.size; simp at this; omega
  have xb := cell_on (a := ⟨w.heap.size, 1, none⟩) (v := .slice ba d.bl bc) (cellOn _ (cellOn _ (cN w.heap.size rfl rfl))) hb
  have y0 := cell_on (a := ⟨w.heap.size + 1, 0, none⟩) (v := .slice none 0 0) (cellOn _ (cN (w.heap.size + 1) (by simp) rfl)) hb
  have y1 := cell_on (a := ⟨w.heap.size + 1, 1, none⟩) (v := .slice none 0 0) (cellOn _ (cN (w.heap.size + 1) (by simp) rfl)) hb
  have z0 := cell_on (a := ⟨w.heap.size + 1 + 1, 0, none⟩) (v := .slice none 0 0) (cN (w.heap.size + 1 + 1) (by simp) rfl) hb
  have z1 := cell_on (a := ⟨w.heap.size + 1 + 1, 1, none⟩) (v := .slice none 0 0) (cN (w.heap.size + 1 + 1) (by simp) rfl) hb
  have hbw : Below w.heap.size w W := bel_tr (bel3 w _ _ _) hb
  have hsw : Soft w W := (((soft1 w _ 150).trans (soft1 _ _ 76) (bel1 _ _)).trans (soft1 _ _ 76) (bel1 _ _)).trans hso hb
  have fz0 := hsw.fz (w.heap.size + 1 + 1) 0 (by omega) (by omega)
  have HI1 : Hid (Ints (fun b => w.heap.size + 3 ≤ b ∧ b < W.heap.size) .u8 W na' d.nl d.name) := hI1.wide (fun b hb => ⟨by have := hb.1; simp at this; omega, hb.2⟩)
  have HBW : Hid (Below w.heap.size w W) := hbw
  have HSW : Hid (Soft w W) := hsw
  clear hb hso hI1 hbw hsw
  go_wp2_with fail
  obtain ⟨Y, hY⟩ : ∃ Y, W.setCell ⟨w.heap.size + 1 + 1, 0, none⟩ (.slice na' d.nl nc') = Y := ⟨_, rfl⟩
  have sY : Y.heap.size = W.heap.size := by rw [← hY]; simp only [size_set]
  have bY : Below w.heap.size w Y := by rw [← hY]; exact bel_set HBW.out _ _ _ (by omega)
  have soY : Soft w Y := by rw [← hY]; exact HSW.out.set _ _
  have iY : Ints (fun b => w.heap.size + 3 ≤ b ∧ b < W.heap.size) .u8 Y na' d.nl d.name := by rw [← hY]; exact HI1.out.on (stay_set _ _ _ (fun h => by have := h.1; simp at this <;> omega))
  have q0 : Y.cell? ⟨w.heap.size + 1 + 1, 0, none⟩ = some (.slice na' d.nl nc') := by rw [← hY]; exact cell_set_same z0
  have q1 : Y.cell? ⟨w.heap.size + 1 + 1, 1, none⟩ = some (.slice none 0 0) := by rw [← hY, cell_set_other (by omega)]; exact z1
  have p0 : Y.cell? ⟨w.heap.size + 1, 0, none⟩ = some (.slice none 0 0) := by rw [← hY, cell_set_far (by omega)]; exact y0
  have p1 : Y.cell? ⟨w.heap.size + 1, 1, none⟩ = some (.slice none 0 0) := by rw [← hY, cell_set_far (by omega)]; exact y1
  rw [hY]
  clear hY y0 y1 z0 z1 HI1 HBW HSW fz0 xb
  refine (toOpS_x Q ba d.bl bc d.body _ (HB.out.later bY) HD.out.body).mono ?_
  rintro e V ⟨⟨ba', rfl, hO⟩, hb, hso⟩
  have hsV := hb.size
  replace q0 := cell_on q0 hb
  replace p0 := cell_on p0 hb
  replace q1 := cell_on q1 hb
  replace p1 := cell_on p1 hb
  have hsw : Soft w V := soY.trans hso hb
  have fp0 := hsw.fz (w.heap.size + 1) 0 (by omega) (by omega)
  have fp1 := hsw.fz (w.heap.size + 1) 1 (by omega) (by omega)
  have fq := hsw.fz (w.heap.size + 1 + 1) 1 (by omega) (by omega)
  have HN : Hid (Ints (fun b => w.heap.size + 3 ≤ b ∧ b < V.heap.size) .u8 V na' d.nl d.name) := (iY.later hb).wide (fun b hb => ⟨hb.1, by omega⟩)
  have HO : Hid (OpsA (fun b => w.heap.size + 3 ≤ b ∧ b < V.heap.size) V ba' d.bl d.body) := hO.wide (fun b hb => ⟨by have := hb.1; omega, hb.2⟩)
  have HBV : Hid (Below w.heap.size w V) := bel_tr bY hb
  have HSV : Hid (Soft w V) := hsw
  clear hb hso hO hsw iY soY bY
  go_wp2
  refine bodyPost_ret (v := .agg #[.slice na' d.nl nc', .slice ba' d.bl d.bl]) ?_ rfl ?_
  · simp [results, Try.f114, go_sem, *]
  · refine ⟨⟨na', nc', ba', rfl, ?_, ?_⟩, ?_, ?_⟩
    · refine Ints.wide (Q := fun b => w.heap.size + 3 ≤ b ∧ b < V.heap.size) (HN.out.on ?_) (fun b hb => ⟨by omega, by simp only [size_set]; exact hb.2⟩)
      exact ((stay_set _ _ _ (fun h => by have := h.1; simp at this <;> omega)).trans (stay_set _ _ _ (fun h => by have := h.1; simp at this <;> omega))).trans (stay_set _ _ _ (fun h => by have := h.1; simp at this <;> omega))
    · refine OpsA.wide (Q := fun b => w.heap.size + 3 ≤ b ∧ b < V.heap.size) (HO.out.on ?_) (fun b hb => ⟨by omega, by simp only [size_set]; exact hb.2⟩)
      exact ((stay_set _ _ _ (fun h => by have := h.1; simp at this <;> omega)).trans (stay_set _ _ _ (fun h => by have := h.1; simp at this <;> omega))).trans (stay_set _ _ _ (fun h => by have := h.1; simp at this <;> omega))
    · exact bel_set (bel_set (bel_set (HBV.out) _ _ _ (by omega)) _ _ _ (by omega)) _ _ _ (by omega)
    · exact (((HSV.out).set _ _).set _ _).set _ _

set_option maxHeartbeats 2000000 in
theorem toLabel_x (Q : Nat → Prop) (na ba : Option Addr) (nc bc : Nat) (d : NodeD) (w : World) (hI : Ints Q .u8 w na d.nl d.name) (hB : OpsA Q w ba d.bl d.body) (hd : SmallN d) :
    Calls Try.prog 115 #[.agg #[.slice na d.nl nc, .bool d.has, .slice ba d.bl bc]] w (CpM (fun x y => .agg #[x, .bool d.has, y]) d w) := by
  have HI : Hid (Ints Q .u8 w na d.nl d.name) := hI
  have HB : Hid (OpsA Q w ba d.bl d.body) := hB
  have HD : Hid (SmallN d) := hd
  clear hI hB hd
  go_enter Try.func115, Try.ntmps115
  go_wp2_with fail
  refine (toByteS_any Q na d.nl nc d.name _ (HI.out.later (bel3 w _ _ _)) HD.out.name).mono ?_
  rintro e W ⟨⟨na', nc', rfl, hI1⟩, hb, hso⟩
  have hsW : w.heap.size + 3 ≤ W.heap.size := by have := hb.size; simp at this; omega
  have x1 := cell_on (a := ⟨w.heap.size, 1, none⟩) (v := .bool d.has) (cellOn _ (cellOn _ (cN w.heap.size rfl rfl))) hb
  have xb := cell_on (a := ⟨w.heap.size, 2, none⟩) (v := .slice ba d.bl bc) (cellOn _ (cellOn _ (cN w.heap.size rfl rfl))) hb
  have y0 := cell_on (a := ⟨w.heap.size + 1, 0, none⟩) (v := .slice none 0 0) (cellOn _ (cN (w.heap.size + 1) (by simp) rfl)) hb
  have y1 := cell_on (a := ⟨w.heap.size + 1, 1, none⟩) (v := .bool false) (cellOn _ (cN (w.heap.size + 1) (by simp) rfl)) hb
  have y2 := cell_on (a := ⟨w.heap.size + 1, 2, none⟩) (v := .slice none 0 0) (cellOn _ (cN (w.heap.size + 1) (by simp) rfl)) hb
  have z0 := cell_on (a := ⟨w.heap.size + 1 + 1, 0, none⟩) (v := .slice none 0 0) (cN (w.heap.size + 1 + 1) (by simp) rfl) hb
  have z1 := cell_on (a := ⟨w.heap.size + 1 + 1, 1, none⟩) (v := .bool false) (cN (w.heap.size + 1 + 1) (by simp) rfl) hb
  have z2 := cell_on (a := ⟨w.heap.size + 1 + 1, 2, none⟩) (v := .slice none 0 0) (cN (w.heap.size + 1 + 1) (by simp) rfl) hb
  have hbw : Below w.heap.size w W := bel_tr (bel3 w _ _ _) hb
  have hsw : Soft w W := (((soft1 w _ 153).trans (soft1 _ _ 80) (bel1 _ _)).trans (soft1 _ _ 80) (bel1 _ _)).trans hso hb
  have fz0 := hsw.fz (w.heap.size + 1 + 1) 0 (by omega) (by omega)
  have fz1 := hsw.fz (w.heap.size + 1 + 1) 1 (by omega) (by omega)
  have HI1 : Hid (Ints (fun b => w.heap.size + 3 ≤ b ∧ b < W.heap.size) .u8 W na' d.nl d.name) := hI1.wide (fun b hb => ⟨by have := hb.1; simp at this; omega, hb.2⟩)
  have HBW : Hid (Below w.heap.size w W) := hbw
  have HSW : Hid (Soft w W) := hsw
  clear hb hso hI1 hbw hsw
  go_wp2_with fail
  obtain ⟨Y, hY⟩ : ∃ Y, (W.setCell ⟨w.heap.size + 1 + 1, 0, none⟩ (.slice na' d.nl nc')).setCell ⟨w.heap.size + 1 + 1, 1, none⟩ (.bool d.has) = Y := ⟨_, rfl⟩
  have sY : Y.heap.size = W.heap.size := by rw [← hY]; simp only [size_set]
  have bY : Below w.heap.size w Y := by rw [← hY]; exact bel_set (bel_set HBW.out _ _ _ (by omega)) _ _ _ (by omega)
  have soY : Soft w Y := by rw [← hY]; exact (HSW.out.set _ _).set _ _
  have iY : Ints (fun b => w.heap.size + 3 ≤ b ∧ b < W.heap.size) .u8 Y na' d.nl d.name := by rw [← hY]; exact HI1.out.on ((stay_set _ _ _ (fun h => by have := h.1; simp at this <;> omega)).trans (stay_set _ _ _ (fun h => by have := h.1; simp at this <;> omega)))
  have q0 : Y.cell? ⟨w.heap.size + 1 + 1, 0, none⟩ = some (.slice na' d.nl nc') := by rw [← hY, cell_set_other (by omega)]; exact cell_set_same z0
  have q1 : Y.cell? ⟨w.heap.size + 1 + 1, 1, none⟩ = some (.bool d.has) := by rw [← hY]; exact cell_set_same (by rw [cell_set_other (by omega)]; exact z1)
  have q2 : Y.cell? ⟨w.heap.size + 1 + 1, 2, none⟩ = some (.slice none 0 0) := by rw [← hY, cell_set_other (by omega), cell_set_other (by omega)]; exact z2
  have p0 : Y.cell? ⟨w.heap.size + 1, 0, none⟩ = some (.slice none 0 0) := by rw [← hY, cell_set_far (by omega), cell_set_far (by omega)]; exact y0
  have p1 : Y.cell? ⟨w.heap.size + 1, 1, none⟩ = some (.bool false) := by rw [← hY, cell_set_far (by omega), cell_set_far (by omega)]; exact y1
  have p2 : Y.cell? ⟨w.heap.size + 1, 2, none⟩ = some (.slice none 0 0) := by rw [← hY, cell_set_far (by omega), cell_set_far (by omega)]; exact y2
  have g1 : Y.cell? ⟨w.heap.size, 1, none⟩ = some (.bool d.has) := by rw [← hY, cell_set_far (by omega), cell_set_far (by omega)]; exact x1
  rw [hY]
  clear hY y0 y1 y2 z0 z1 z2 HI1 HBW HSW fz0 fz1 x1 xb
  refine (toOpS_x Q ba d.bl bc d.body _ (HB.out.later bY) HD.out.body).mono ?_
  rintro e V ⟨⟨ba', rfl, hO⟩, hb, hso⟩
  have hsV := hb.size
  replace q0 := cell_on q0 hb
  replace p0 := cell_on p0 hb
  replace q1 := cell_on q1 hb
  replace p1 := cell_on p1 hb
  replace q2 := cell_on q2 hb
  replace p2 := cell_on p2 hb
  clear g1
  have hsw : Soft w V := soY.trans hso hb
  have fp0 := hsw.fz (w.heap.size + 1) 0 (by omega) (by omega)
  have fp1 := hsw.fz (w.heap.size + 1) 1 (by omega) (by omega)
  have fp2 := hsw.fz (w.heap.size + 1) 2 (by omega) (by omega)
  have fq := hsw.fz (w.heap.size + 1 + 1) 2 (by omega) (by omega)
  have HN : Hid (Ints (fun b => w.heap.size + 3 ≤ b ∧ b < V.heap.size) .u8 V na' d.nl d.name) := (iY.later hb).wide (fun b hb => ⟨hb.1, by omega⟩)
  have HO : Hid (OpsA (fun b => w.heap.size + 3 ≤ b ∧ b < V.heap.size) V ba' d.bl d.body) := hO.wide (fun b hb => ⟨by have := hb.1; omega, hb.2⟩)
  have HBV : Hid (Below w.heap.size w V) := bel_tr bY hb
  have HSV : Hid (Soft w V) := hsw
  clear hb hso hO hsw iY soY bY
  go_wp2
  refine bodyPost_ret (v := .agg #[.slice na' d.nl nc', .bool d.has, .slice ba' d.bl d.bl]) ?_ rfl ?_
  · simp [results, Try.f115, go_sem, *]
  · refine ⟨⟨na', nc', ba', rfl, ?_, ?_⟩, ?_, ?_⟩
    · refine Ints.wide (Q := fun b => w.heap.size + 3 ≤ b ∧ b < V.heap.size) (HN.out.on ?_) (fun b hb => ⟨by omega, by simp only [size_set]; exact hb.2⟩)
      exact (((stay_set _ _ _ (fun h => by have := h.1; simp at this <;> omega)).trans (stay_set _ _ _ (fun h => by have := h.1; simp at this <;> omega))).trans (stay_set _ _ _ (fun h => by have := h.1; simp at this <;> omega))).trans (stay_set _ _ _ (fun h => by have := h.1; simp at this <;> omega))
    · refine OpsA.wide (Q := fun b => w.heap.size + 3 ≤ b ∧ b < V.heap.size) (HO.out.on ?_) (fun b hb => ⟨by omega, by simp only [size_set]; exact hb.2⟩)
      exact (((stay_set _ _ _ (fun h => by have := h.1; simp at this <;> omega)).trans (stay_set _ _ _ (fun h => by have := h.1; simp at this <;> omega))).trans (stay_set _ _ _ (fun h => by have := h.1; simp at this <;> omega))).trans (stay_set _ _ _ (fun h => by have := h.1; simp at this <;> omega))
    · exact bel_set (bel_set (bel_set (bel_set (HBV.out) _ _ _ (by omega)) _ _ _ (by omega)) _ _ _ (by omega)) _ _ _ (by omega)
    · exact ((((HSV.out).set _ _).set _ _).set _ _).set _ _

def toRuleXI (w : World) (n : Nat) (R : Nat → NodeD) (i : Value) (wr : World) : Prop :=
  ∃ m : Nat, m ≤ n ∧ i = .int .i64 (m : Int) ∧ Row wr w.heap.size 76 (n * 2) ∧ (∀ j, j < m → RuleX (fun b => w.heap.size < b ∧ b < wr.heap.size) wr w.heap.size (0 + j * 2) (R j)) ∧ Below w.heap.size w wr ∧ w.heap.size < wr.heap.size ∧ Soft w wr

set_option maxHeartbeats 2000000 in
theorem toRuleS_x (Q : Nat → Prop) (a : Option Addr) (n c : Nat) (R : Nat → NodeD) (w : World) (hR : RulesA Q w a n R) (hn : n ≤ 1048576) (hs : ∀ i, i < n → SmallN (R i)) :
    Calls Try.prog 56 #[.slice a n c] w (CpS (fun w' a => RulesX (New w w') w' a n R) n w) := by
  have hmk := make76 n hn
  have HR : Hid (RulesA Q w a n R) := hR
  have HSL : Hid (∀ i, i < n → SmallN (R i)) := hs
  clear hR hs
  go_enter Try.func56, Try.ntmps56
  go_wp2
  go_loopw [4] (fun i wr => toRuleXI w n R i wr) (fun i _ => n - (intOf i).toNat)
  case atStart => exact ⟨0, Nat.zero_le _, rfl, row_made w _ _ 76 (by simp), fun j hj => absurd hj (Nat.not_lt_zero _), bel1 w _, by simp, soft1 w _ 76⟩
  case round =>
    obtain ⟨m, hm, rfl, hrow, hops, hbel, hsz, hsoft⟩ := hrel
    by_cases hlt : m < n
    · have hR := HR.out.later hbel
      rcases hR with h0 | ⟨b, off, rfl, hq, hR⟩
      · omega
      obtain ⟨⟨na, nc, c0, hs1⟩, ⟨ba, bc, c2, hs2⟩⟩ := hR m hlt
      have HS1 : Hid (Ints Q .u8 wr na (R m).nl (R m).name) := hs1
      have HS2 : Hid (OpsA Q wr ba (R m).bl (R m).body) := hs2
      have HROW : Hid (Row wr w.heap.size 76 (n * 2)) := hrow
      have HOPS : Hid (∀ j, j < m → RuleX (fun b => w.heap.size < b ∧ b < wr.heap.size) wr w.heap.size (0 + j * 2) (R j)) := hops
      have HBE : Hid (Below w.heap.size w wr) := hbel
      have HSO : Hid (Soft w wr) := hsoft
      clear hR hs1 hs2 hrow hops hbel hsoft hmk
      go_wp2_with fail
      refine (toRule_x Q na ba nc bc (R m) _ HS1.out HS2.out (HSL.out m hlt)).mono ?_
      rintro e W ⟨⟨na', nc', ba', rfl, hI, hO⟩, hb, hso⟩
      have hrw : Row W w.heap.size 76 (n * 2) := HROW.out.of_block (hb.block _ hsz)
      obtain ⟨u0, r0⟩ := hrw.cell (i := m * 2) (by omega)
      have f0 := hrw.frozen (m * 2)
      obtain ⟨u1, r1⟩ := hrw.cell (i := m * 2 + 1) (by omega)
      have f1 := hrw.frozen (m * 2 + 1)
      have HRW : Hid (Row W w.heap.size 76 (n * 2)) := hrw
      have HB2 : Hid (Below wr.heap.size wr W) := hb
      have HSO2 : Hid (Soft wr W) := hso
      have HI : Hid (Ints (New wr W) .u8 W na' (R m).nl (R m).name) := hI
      have HO : Hid (OpsA (New wr W) W ba' (R m).bl (R m).body) := hO
      clear hrw hb hso hI hO
      go_wp2
      go_roundw
      case rel =>
        show toRuleXI w n R _ (put2 W w.heap.size (m * 2) _ _)
        have hsz2 := HB2.out.size
        obtain ⟨p0, p1⟩ := put2_cells (v0 := .slice na' (R m).nl nc') (v1 := .slice ba' (R m).bl (R m).bl) HRW.out (o := m * 2) (by omega)
        refine ⟨m + 1, by omega, by go_num, put2_row HRW.out, all_snoc (fun j hj => ?_) ?_, put2_bel (bel_tr HBE.out HB2.out) _ _ _ _ (Nat.le_refl _), by rw [put2_size]; omega, put2_soft (HSO.out.trans HSO2.out HB2.out) _ _ _ _⟩
        · exact (((HOPS.out j hj).later HB2.out).put (fun h => by omega) (by omega)).wide (fun b hb => ⟨hb.1, by rw [put2_size]; omega⟩)
        · rw [Nat.zero_add]
          exact ⟨⟨⟨na', nc', p0, (HI.out.on (put2_stay (fun h => by have := h.1; omega))).wide (fun b hb => ⟨by have := hb.1; omega, by rw [put2_size]; exact hb.2⟩)⟩, ⟨ba', (R m).bl, p1, (HO.out.on (put2_stay (fun h => by have := h.1; omega))).wide (fun b hb => ⟨by have := hb.1; omega, by rw [put2_size]; exact hb.2⟩)⟩⟩, ⟨ba', (R m).bl, p1, Nat.le_refl _⟩⟩
      case measure => simp [intOf]; omega
    · obtain rfl : m = n := by omega
      go_wp2
      go_ret
      refine ⟨⟨_, _, rfl, .inr ⟨w.heap.size, 0, rfl, ⟨Nat.le_refl _, hsz⟩, fun i hi => ?_⟩⟩, hbel, hsoft⟩
      exact (hops i hi).wide (fun b hb => ⟨by omega, hb.2⟩)

def toLabelXI (w : World) (n : Nat) (R : Nat → NodeD) (i : Value) (wr : World) : Prop :=
  ∃ m : Nat, m ≤ n ∧ i = .int .i64 (m : Int) ∧ Row wr w.heap.size 80 (n * 3) ∧ (∀ j, j < m → LabX (fun b => w.heap.size < b ∧ b < wr.heap.size) wr w.heap.size (0 + j * 3) (R j)) ∧ Below w.heap.size w wr ∧ w.heap.size < wr.heap.size ∧ Soft w wr

set_option maxHeartbeats 2000000 in
theorem toLabelS_x (Q : Nat → Prop) (a : Option Addr) (n c : Nat) (R : Nat → NodeD) (w : World) (hR : LabsA Q w a n R) (hn : n ≤ 1048576) (hs : ∀ i, i < n → SmallN (R i)) :
    Calls Try.prog 57 #[.slice a n c] w (CpS (fun w' a => LabsX (New w w') w' a n R) n w) := by
  have hmk := make80 n hn
  have HR : Hid (LabsA Q w a n R) := hR
  have HSL : Hid (∀ i, i < n → SmallN (R i)) := hs
  clear hR hs
  go_enter Try.func57, Try.ntmps57
  go_wp2
  go_loopw [4] (fun i wr => toLabelXI w n R i wr) (fun i _ => n - (intOf i).toNat)
  case atStart => exact ⟨0, Nat.zero_le _, rfl, row_made w _ _ 80 (by simp), fun j hj => absurd hj (Nat.not_lt_zero _), bel1 w _, by simp, soft1 w _ 80⟩
  case round =>
    obtain ⟨m, hm, rfl, hrow, hops, hbel, hsz, hsoft⟩ := hrel
    by_cases hlt : m < n
    · have hR := HR.out.later hbel
      rcases hR with h0 | ⟨b, off, rfl, hq, hR⟩
      · omega
      obtain ⟨⟨na, nc, c0, hs1⟩, c1, ⟨ba, bc, c2, hs2⟩⟩ := hR m hlt
      have HS1 : Hid (Ints Q .u8 wr na (R m).nl (R m).name) := hs1
      have HS2 : Hid (OpsA Q wr ba (R m).bl (R m).body) := hs2
      have HROW : Hid (Row wr w.heap.size 80 (n * 3)) := hrow
      have HOPS : Hid (∀ j, j < m → LabX (fun b => w.heap.size < b ∧ b < wr.heap.size) wr w.heap.size (0 + j * 3) (R j)) := hops
      have HBE : Hid (Below w.heap.size w wr) := hbel
      have HSO : Hid (Soft w wr) := hsoft
      clear hR hs1 hs2 hrow hops hbel hsoft hmk
      go_wp2_with fail
      refine (toLabel_x Q na ba nc bc (R m) _ HS1.out HS2.out (HSL.out m hlt)).mono ?_
      rintro e W ⟨⟨na', nc', ba', rfl, hI, hO⟩, hb, hso⟩
      have hrw : Row W w.heap.size 80 (n * 3) := HROW.out.of_block (hb.block _ hsz)
      obtain ⟨u0, r0⟩ := hrw.cell (i := m * 3) (by omega)
      have f0 := hrw.frozen (m * 3)
      obtain ⟨u1, r1⟩ := hrw.cell (i := m * 3 + 1) (by omega)
      have f1 := hrw.frozen (m * 3 + 1)
      obtain ⟨u2, r2⟩ := hrw.cell (i := m * 3 + 2) (by omega)
      have f2 := hrw.frozen (m * 3 + 2)
      have HRW : Hid (Row W w.heap.size 80 (n * 3)) := hrw
      have HB2 : Hid (Below wr.heap.size wr W) := hb
      have HSO2 : Hid (Soft wr W) := hso
      have HI : Hid (Ints (New wr W) .u8 W na' (R m).nl (R m).name) := hI
      have HO : Hid (OpsA (New wr W) W ba' (R m).bl (R m).body) := hO
      clear hrw hb hso hI hO
      go_wp2
      go_roundw
      case rel =>
        show toLabelXI w n R _ (put3 W w.heap.size (m * 3) _ _ _)
        have hsz2 := HB2.out.size
        obtain ⟨p0, p1, p2⟩ := put3_cells (v0 := .slice na' (R m).nl nc') (v1 := .bool (R m).has) (v2 := .slice ba' (R m).bl (R m).bl) HRW.out (o := m * 3) (by omega)
        refine ⟨m + 1, by omega, by go_num, put3_row HRW.out, all_snoc (fun j hj => ?_) ?_, put3_bel (bel_tr HBE.out HB2.out) _ _ _ _ _ (Nat.le_refl _), by rw [put3_size]; omega, put3_soft (HSO.out.trans HSO2.out HB2.out) _ _ _ _ _⟩
        · exact (((HOPS.out j hj).later HB2.out).put (fun h => by omega) (by omega)).wide (fun b hb => ⟨hb.1, by rw [put3_size]; omega⟩)
        · rw [Nat.zero_add]
          exact ⟨⟨⟨na', nc', p0, (HI.out.on (put3_stay (fun h => by have := h.1; omega))).wide (fun b hb => ⟨by have := hb.1; omega, by rw [put3_size]; exact hb.2⟩)⟩, p1, ⟨ba', (R m).bl, p2, (HO.out.on (put3_stay (fun h => by have := h.1; omega))).wide (fun b hb => ⟨by have := hb.1; omega, by rw [put3_size]; exact hb.2⟩)⟩⟩, ⟨ba', (R m).bl, p2, Nat.le_refl _⟩⟩
      case measure => simp [intOf]; omega
    · obtain rfl : m = n := by omega
      go_wp2
      go_ret
      refine ⟨⟨_, _, rfl, .inr ⟨w.heap.size, 0, rfl, ⟨Nat.le_refl _, hsz⟩, fun i hi => ?_⟩⟩, hbel, hsoft⟩
      exact (hops i hi).wide (fun b hb => ⟨by omega, hb.2⟩)

/-- A grammar, copied. -/
structure CpX (g : Gr) (w : World) (e : Ending) (w' : World) : Prop where
  val : ∃ ra rc la lc, e = .returned (.agg #[.slice ra g.nr rc, .slice la g.nb lc]) ∧ GramX (New w w') w' ra la g
  bel : Below w.heap.size w w'
  soft : Soft w w'

set_option maxHeartbeats 2000000 in
theorem toGrammar_x (Q : Nat → Prop) (ra la : Option Addr) (rc lc : Nat) (g : Gr) (w : World) (hG : GramA Q w ra la g) (hs : SmallG g) :
    Calls Try.prog 17 #[.agg #[.slice ra g.nr rc, .slice la g.nb lc]] w (CpX g w) := by
  have HG : Hid (GramA Q w ra la g) := hG
  have HD : Hid (SmallG g) := hs
  clear hG hs
  go_enter Try.func17, Try.ntmps17
  go_wp2_with fail
  refine (toRuleS_x Q ra g.nr rc g.rule _ (HG.out.rules.later (bel3 w _ _ _)) HD.out.nr HD.out.rule).mono ?_
  rintro e W ⟨⟨ra', rc', rfl, hI1⟩, hb, hso⟩
  have hsW : w.heap.size + 3 ≤ W.heap.size := by have := hb.size; simp at this; omega
  have xb := cell_on (a := ⟨w.heap.size, 1, none⟩) (v := .slice la g.nb lc) (cellOn _ (cellOn _ (cN w.heap.size rfl rfl))) hb
  have y0 := cell_on (a := ⟨w.heap.size + 1, 0, none⟩) (v := .slice none 0 0) (cellOn _ (cN (w.heap.size + 1) (by simp) rfl)) hb
  have y1 := cell_on (a := ⟨w.heap.size + 1, 1, none⟩) (v := .slice none 0 0) (cellOn _ (cN (w.heap.size + 1) (by simp) rfl)) hb
  have z0 := cell_on (a := ⟨w.heap.size + 1 + 1, 0, none⟩) (v := .slice none 0 0) (cN (w.heap.size + 1 + 1) (by simp) rfl) hb
  have z1 := cell_on (a := ⟨w.heap.size + 1 + 1, 1, none⟩) (v := .slice none 0 0) (cN (w.heap.size + 1 + 1) (by simp) rfl) hb
  have hbw : Below w.heap.size w W := bel_tr (bel3 w _ _ _) hb
  have hsw : Soft w W := (((soft1 w _ 30).trans (soft1 _ _ 36) (bel1 _ _)).trans (soft1 _ _ 36) (bel1 _ _)).trans hso hb
  have fz0 := hsw.fz (w.heap.size + 1 + 1) 0 (by omega) (by omega)
  have HI1 : Hid (RulesX (fun b => w.heap.size + 3 ≤ b ∧ b < W.heap.size) W ra' g.nr g.rule) := hI1.wide (fun b hb => ⟨by have := hb.1; simp at this; omega, hb.2⟩)
  have HBW : Hid (Below w.heap.size w W) := hbw
  have HSW : Hid (Soft w W) := hsw
  clear hb hso hI1 hbw hsw
  go_wp2_with fail
  obtain ⟨Y, hY⟩ : ∃ Y, W.setCell ⟨w.heap.size + 1 + 1, 0, none⟩ (.slice ra' g.nr rc') = Y := ⟨_, rfl⟩
  have sY : Y.heap.size = W.heap.size := by rw [← hY]; simp only [size_set]
  have bY : Below w.heap.size w Y := by rw [← hY]; exact bel_set HBW.out _ _ _ (by omega)
  have soY : Soft w Y := by rw [← hY]; exact HSW.out.set _ _
  have iY : RulesX (fun b => w.heap.size + 3 ≤ b ∧ b < W.heap.size) Y ra' g.nr g.rule := by rw [← hY]; exact HI1.out.on (stay_set _ _ _ (fun h => by have := h.1; simp at this <;> omega))
  have q0 : Y.cell? ⟨w.heap.size + 1 + 1, 0, none⟩ = some (.slice ra' g.nr rc') := by rw [← hY]; exact cell_set_same z0
  have q1 : Y.cell? ⟨w.heap.size + 1 + 1, 1, none⟩ = some (.slice none 0 0) := by rw [← hY, cell_set_other (by omega)]; exact z1
  have p0 : Y.cell? ⟨w.heap.size + 1, 0, none⟩ = some (.slice none 0 0) := by rw [← hY, cell_set_far (by omega)]; exact y0
  have p1 : Y.cell? ⟨w.heap.size + 1, 1, none⟩ = some (.slice none 0 0) := by rw [← hY, cell_set_far (by omega)]; exact y1
  rw [hY]
  clear hY y0 y1 z0 z1 HI1 HBW HSW fz0 xb
  refine (toLabelS_x Q la g.nb lc g.lab _ (HG.out.labs.later bY) HD.out.nb HD.out.lab).mono ?_
  rintro e V ⟨⟨la', lc', rfl, hO⟩, hb, hso⟩
  have hsV := hb.size
  replace q0 := cell_on q0 hb
  replace p0 := cell_on p0 hb
  replace q1 := cell_on q1 hb
  replace p1 := cell_on p1 hb
  have hsw : Soft w V := soY.trans hso hb
  have fp0 := hsw.fz (w.heap.size + 1) 0 (by omega) (by omega)
  have fp1 := hsw.fz (w.heap.size + 1) 1 (by omega) (by omega)
  have fq := hsw.fz (w.heap.size + 1 + 1) 1 (by omega) (by omega)
  have HN : Hid (RulesX (fun b => w.heap.size + 3 ≤ b ∧ b < V.heap.size) V ra' g.nr g.rule) := (iY.later hb).wide (fun b hb => ⟨hb.1, by omega⟩)
  have HO : Hid (LabsX (fun b => w.heap.size + 3 ≤ b ∧ b < V.heap.size) V la' g.nb g.lab) := hO.wide (fun b hb => ⟨by have := hb.1; omega, hb.2⟩)
  have HBV : Hid (Below w.heap.size w V) := bel_tr bY hb
  have HSV : Hid (Soft w V) := hsw
  clear hb hso hO hsw iY soY bY
  go_wp2
  refine bodyPost_ret (v := .agg #[.slice ra' g.nr rc', .slice la' g.nb lc']) ?_ rfl ?_
  · simp [results, Try.f17, go_sem, *]
  · refine ⟨⟨ra', rc', la', lc', rfl, ⟨?_, ?_⟩⟩, ?_, ?_⟩
    · refine RulesX.wide (Q := fun b => w.heap.size + 3 ≤ b ∧ b < V.heap.size) (HN.out.on ?_) (fun b hb => ⟨by omega, by simp only [size_set]; exact hb.2⟩)
      exact ((stay_set _ _ _ (fun h => by have := h.1; simp at this <;> omega)).trans (stay_set _ _ _ (fun h => by have := h.1; simp at this <;> omega))).trans (stay_set _ _ _ (fun h => by have := h.1; simp at this <;> omega))
    · refine LabsX.wide (Q := fun b => w.heap.size + 3 ≤ b ∧ b < V.heap.size) (HO.out.on ?_) (fun b hb => ⟨by omega, by simp only [size_set]; exact hb.2⟩)
      exact ((stay_set _ _ _ (fun h => by have := h.1; simp at this <;> omega)).trans (stay_set _ _ _ (fun h => by have := h.1; simp at this <;> omega))).trans (stay_set _ _ _ (fun h => by have := h.1; simp at this <;> omega))
    · exact bel_set (bel_set (bel_set HBV.out _ _ _ (by omega)) _ _ _ (by omega)) _ _ _ (by omega)
    · exact ((HSV.out.set _ _).set _ _).set _ _

end Go.Proofs.Ytjndcajblpgjmaa
