/-
  Walks: copies of rules, labels, grammars.
-/
import Derived.Test.YtjndcajblpgjmaaCopy
namespace Go.Proofs.Ytjndcajblpgjmaa
open Go.RowKit
open M (OpD NodeD Gr)
set_option linter.unusedVariables false

theorem cell_set_far {w : World} {b b' i j : Nat} {v : Value} (h : b ≠ b') : (w.setCell ⟨b, i, none⟩ v).cell? ⟨b', j, none⟩ = w.cell? ⟨b', j, none⟩ := World.cell?_setCell_other w _ _ v (fun e => h (by injection e))
theorem Soft.fz {w W : World} (h : Soft w W) (b o : Nat) (h1 : w.heap.size ≤ b) (h2 : b < W.heap.size) : W.frozen? ⟨b, o, none⟩ = false := h b o h1 h2

/-- A node, copied: its name and its body. -/
structure CpN (mk : Value → Value → Value) (d : NodeD) (w : World) (e : Ending) (w' : World) : Prop where
  val : ∃ na nc ba bc, e = .returned (mk (.slice na d.nl nc) (.slice ba d.bl bc)) ∧ Ints (New w w') .u8 w' na d.nl d.name ∧ OpsA (New w w') w' ba d.bl d.body
  bel : Below w.heap.size w w'
  soft : Soft w w'

set_option maxHeartbeats 2000000 in
theorem toRule_any (Q : Nat → Prop) (na ba : Option Addr) (nc bc : Nat) (d : NodeD) (w : World) (hI : Ints Q .u8 w na d.nl d.name) (hB : OpsA Q w ba d.bl d.body) (hd : SmallN d) :
    Calls Try.prog 114 #[.agg #[.slice na d.nl nc, .slice ba d.bl bc]] w (CpN (fun x y => .agg #[x, y]) d w) := by
  have HI : Hid (Ints Q .u8 w na d.nl d.name) := hI
  have HB : Hid (OpsA Q w ba d.bl d.body) := hB
  have HD : Hid (SmallN d) := hd
  clear hI hB hd
  go_enter Try.func114, Try.ntmps114
  go_wp2_with fail
  refine (toByteS_any Q na d.nl nc d.name _ (HI.out.later (bel3 w _ _ _)) HD.out.name).mono ?_
  rintro e W ⟨⟨na', nc', rfl, hI1⟩, hb, hso⟩
  have hsW : w.heap.size + 3 ≤ W.heap.size := by have := hb.size; simp at this; omega
  have xb := cell_on (a := ⟨w.heap.size, 1, none⟩) (v := .slice ba d.bl bc) (cellOn _ (cellOn _ (cN w.heap.size rfl rfl))) hb
  have y0 := cell_on (a := ⟨w.heap.size + 1, 0, none⟩) (v := .slice none 0 0) (cellOn _ (cN (w.heap.size + 1) (by simp) rfl)) hb
  have y1 := cell_on (a := ⟨w.heap.size + 1, 1, none⟩) (v := .slice none 0 0) (cellOn _ (cN (w.heap.size + 1) (by simp) rfl)) hb
  have z0 := cell_on (a := ⟨w.heap.size + 1 + 1, 0, none⟩) (v := .slice none 0 0) (cN (w.heap.size + 1 + 1) (by simp) rfl) hb
  have z1 := cell_on (a := ⟨w.heap.size + 1 + 1, 1, none⟩) (v := .slice none 0 0) (cN (w.heap.size + 1 + 1) (by simp) rfl) hb
  have hbw : Below w.heap.size w W := bel_tr (bel3 w _ _ _) hb
  have hsw : Soft w W := (((soft1 w _ 150).trans (soft1 _ _ 76) (bel1 _ _)).trans (soft1 _ _ 76) (bel1 _ _)).trans hso hb
  have fz0 := hsw.fz (w.heap.size + 1 + 1) 0 (by omega) (by omega)
  have HI1 : Hid (Ints (fun b => w.heap.size + 3 ≤ b ∧ b < W.heap.size) .u8 W na' d.nl d.name) := hI1.wide (fun b hb => ⟨by have := hb.1; simp at this; omega, hb.2⟩)
  have HBW : Hid (Below w.heap.size w W) := hbw
  have HSW : Hid (Soft w W) := hsw
  clear hb hso hI1 hbw hsw
  go_wp2_with fail
  obtain ⟨Y, hY⟩ : ∃ Y, W.setCell ⟨w.heap.size + 1 + 1, 0, none⟩ (.slice na' d.nl nc') = Y := ⟨_, rfl⟩
  have sY : Y.heap.size = W.heap.size := by rw [← hY]; simp only [size_set]
  have bY : Below w.heap.size w Y := by rw [← hY]; exact bel_set HBW.out _ _ _ (by omega)
  have soY : Soft w Y := by rw [← hY]; exact HSW.out.set _ _
  have iY : Ints (fun b => w.heap.size + 3 ≤ b ∧ b < W.heap.size) .u8 Y na' d.nl d.name := by rw [← hY]; exact HI1.out.on (stay_set _ _ _ (fun h => by have := h.1; simp at this <;> omega))
  have q0 : Y.cell? ⟨w.heap.size + 1 + 1, 0, none⟩ = some (.slice na' d.nl nc') := by rw [← hY]; exact cell_set_same z0
  have q1 : Y.cell? ⟨w.heap.size + 1 + 1, 1, none⟩ = some (.slice none 0 0) := by rw [← hY, cell_set_other (by omega)]; exact z1
  have p0 : Y.cell? ⟨w.heap.size + 1, 0, none⟩ = some (.slice none 0 0) := by rw [← hY, cell_set_far (by omega)]; exact y0
  have p1 : Y.cell? ⟨w.heap.size + 1, 1, none⟩ = some (.slice none 0 0) := by rw [← hY, cell_set_far (by omega)]; exact y1
  rw [hY]
  clear hY y0 y1 z0 z1 HI1 HBW HSW fz0 xb
  refine (toOpS_any Q ba d.bl bc d.body _ (HB.out.later bY) HD.out.body).mono ?_
  rintro e V ⟨⟨ba', bc', rfl, hO⟩, hb, hso⟩
  have hsV := hb.size
  replace q0 := cell_on q0 hb
  replace p0 := cell_on p0 hb
  replace q1 := cell_on q1 hb
  replace p1 := cell_on p1 hb
  have hsw : Soft w V := soY.trans hso hb
  have fp0 := hsw.fz (w.heap.size + 1) 0 (by omega) (by omega)
  have fp1 := hsw.fz (w.heap.size + 1) 1 (by omega) (by omega)
  have fq := hsw.fz (w.heap.size + 1 + 1) 1 (by omega) (by omega)
  have HN : Hid (Ints (fun b => w.heap.size + 3 ≤ b ∧ b < V.heap.size) .u8 V na' d.nl d.name) := (iY.later hb).wide (fun b hb => ⟨hb.1, by omega⟩)
  have HO : Hid (OpsA (fun b => w.heap.size + 3 ≤ b ∧ b < V.heap.size) V ba' d.bl d.body) := hO.wide (fun b hb => ⟨by have := hb.1; omega, hb.2⟩)
  have HBV : Hid (Below w.heap.size w V) := bel_tr bY hb
  have HSV : Hid (Soft w V) := hsw
  clear hb hso hO hsw iY soY bY
  go_wp2
  refine bodyPost_ret (v := .agg #[.slice na' d.nl nc', .slice ba' d.bl bc']) ?_ rfl ?_
  · simp [results, Try.f114, go_sem, *]
  · refine ⟨⟨na', nc', ba', bc', rfl, ?_, ?_⟩, ?_, ?_⟩
    · refine Ints.wide (Q := fun b => w.heap.size + 3 ≤ b ∧ b < V.heap.size) (HN.out.on ?_) (fun b hb => ⟨by omega, by simp only [size_set]; exact hb.2⟩)
      exact ((stay_set _ _ _ (fun h => by have := h.1; simp at this <;> omega)).trans (stay_set _ _ _ (fun h => by have := h.1; simp at this <;> omega))).trans (stay_set _ _ _ (fun h => by have := h.1; simp at this <;> omega))
    · refine OpsA.wide (Q := fun b => w.heap.size + 3 ≤ b ∧ b < V.heap.size) (HO.out.on ?_) (fun b hb => ⟨by omega, by simp only [size_set]; exact hb.2⟩)
      exact ((stay_set _ _ _ (fun h => by have := h.1; simp at this <;> omega)).trans (stay_set _ _ _ (fun h => by have := h.1; simp at this <;> omega))).trans (stay_set _ _ _ (fun h => by have := h.1; simp at this <;> omega))
    · exact bel_set (bel_set (bel_set (HBV.out) _ _ _ (by omega)) _ _ _ (by omega)) _ _ _ (by omega)
    · exact (((HSV.out).set _ _).set _ _).set _ _

set_option maxHeartbeats 2000000 in
theorem toLabel_any (Q : Nat → Prop) (na ba : Option Addr) (nc bc : Nat) (d : NodeD) (w : World) (hI : Ints Q .u8 w na d.nl d.name) (hB : OpsA Q w ba d.bl d.body) (hd : SmallN d) :
    Calls Try.prog 115 #[.agg #[.slice na d.nl nc, .bool d.has, .slice ba d.bl bc]] w (CpN (fun x y => .agg #[x, .bool d.has, y]) d w) := by
  have HI : Hid (Ints Q .u8 w na d.nl d.name) := hI
  have HB : Hid (OpsA Q w ba d.bl d.body) := hB
  have HD : Hid (SmallN d) := hd
  clear hI hB hd
  go_enter Try.func115, Try.ntmps115
  go_wp2_with fail
  refine (toByteS_any Q na d.nl nc d.name _ (HI.out.later (bel3 w _ _ _)) HD.out.name).mono ?_
  rintro e W ⟨⟨na', nc', rfl, hI1⟩, hb, hso⟩
  have hsW : w.heap.size + 3 ≤ W.heap.size := by have := hb.size; simp at this; omega
  have x1 := cell_on (a := ⟨w.heap.size, 1, none⟩) (v := .bool d.has) (cellOn _ (cellOn _ (cN w.heap.size rfl rfl))) hb
  have xb := cell_on (a := ⟨w.heap.size, 2, none⟩) (v := .slice ba d.bl bc) (cellOn _ (cellOn _ (cN w.heap.size rfl rfl))) hb
  have y0 := cell_on (a := ⟨w.heap.size + 1, 0, none⟩) (v := .slice none 0 0) (cellOn _ (cN (w.heap.size + 1) (by simp) rfl)) hb
  have y1 := cell_on (a := ⟨w.heap.size + 1, 1, none⟩) (v := .bool false) (cellOn _ (cN (w.heap.size + 1) (by simp) rfl)) hb
  have y2 := cell_on (a := ⟨w.heap.size + 1, 2, none⟩) (v := .slice none 0 0) (cellOn _ (cN (w.heap.size + 1) (by simp) rfl)) hb
  have z0 := cell_on (a := ⟨w.heap.size + 1 + 1, 0, none⟩) (v := .slice none 0 0) (cN (w.heap.size + 1 + 1) (by simp) rfl) hb
  have z1 := cell_on (a := ⟨w.heap.size + 1 + 1, 1, none⟩) (v := .bool false) (cN (w.heap.size + 1 + 1) (by simp) rfl) hb
  have z2 := cell_on (a := ⟨w.heap.size + 1 + 1, 2, none⟩) (v := .slice none 0 0) (cN (w.heap.size + 1 + 1) (by simp) rfl) hb
  have hbw : Below w.heap.size w W := bel_tr (bel3 w _ _ _) hb
  have hsw : Soft w W := (((soft1 w _ 153).trans (soft1 _ _ 80) (bel1 _ _)).trans (soft1 _ _ 80) (bel1 _ _)).trans hso hb
  have fz0 := hsw.fz (w.heap.size + 1 + 1) 0 (by omega) (by omega)
  have fz1 := hsw.fz (w.heap.size + 1 + 1) 1 (by omega) (by omega)
  have HI1 : Hid (Ints (fun b => w.heap.size + 3 ≤ b ∧ b < W.heap.size) .u8 W na' d.nl d.name) := hI1.wide (fun b hb => ⟨by have := hb.1; simp at this; omega, hb.2⟩)
  have HBW : Hid (Below w.heap.size w W) := hbw
  have HSW : Hid (Soft w W) := hsw
  clear hb hso hI1 hbw hsw
  go_wp2_with fail
  obtain ⟨Y, hY⟩ : ∃ Y, (W.setCell ⟨w.heap.size + 1 + 1, 0, none⟩ (.slice na' d.nl nc')).setCell ⟨w.heap.size + 1 + 1, 1, none⟩ (.bool d.has) = Y := ⟨_, rfl⟩
  have sY : Y.heap.size = W.heap.size := by rw [← hY]; simp only [size_set]
  have bY : Below w.heap.size w Y := by rw [← hY]; exact bel_set (bel_set HBW.out _ _ _ (by omega)) _ _ _ (by omega)
  have soY : Soft w Y := by rw [← hY]; exact (HSW.out.set _ _).set _ _
  have iY : Ints (fun b => w.heap.size + 3 ≤ b ∧ b < W.heap.size) .u8 Y na' d.nl d.name := by rw [← hY]; exact HI1.out.on ((stay_set _ _ _ (fun h => by have := h.1; simp at this <;> omega)).trans (stay_set _ _ _ (fun h => by have := h.1; simp at this <;> omega)))
  have q0 : Y.cell? ⟨w.heap.size + 1 + 1, 0, none⟩ = some (.slice na' d.nl nc') := by rw [← hY, cell_set_other (by omega)]; exact cell_set_same z0
  have q1 : Y.cell? ⟨w.heap.size + 1 + 1, 1, none⟩ = some (.bool d.has) := by rw [← hY]; exact cell_set_same (by rw [cell_set_other (by omega)]; exact z1)
  have q2 : Y.cell? ⟨w.heap.size + 1 + 1, 2, none⟩ = some (.slice none 0 0) := by rw [← hY, cell_set_other (by omega), cell_set_other (by omega)]; exact z2
  have p0 : Y.cell? ⟨w.heap.size + 1, 0, none⟩ = some (.slice none 0 0) := by rw [← hY, cell_set_far (by omega), cell_set_far (by omega)]; exact y0
  have p1 : Y.cell? ⟨w.heap.size + 1, 1, none⟩ = some (.bool false) := by rw [← hY, cell_set_far (by omega), cell_set_far (by omega)]; exact y1
  have p2 : Y.cell? ⟨w.heap.size + 1, 2, none⟩ = some (.slice none 0 0) := by rw [← hY, cell_set_far (by omega), cell_set_far (by omega)]; exact y2
  have g1 : Y.cell? ⟨w.heap.size, 1, none⟩ = some (.bool d.has) := by rw [← hY, cell_set_far (by omega), cell_set_far (by omega)]; exact x1
  rw [hY]
  clear hY y0 y1 y2 z0 z1 z2 HI1 HBW HSW fz0 fz1 x1 xb
  refine (toOpS_any Q ba d.bl bc d.body _ (HB.out.later bY) HD.out.body).mono ?_
  rintro e V ⟨⟨ba', bc', rfl, hO⟩, hb, hso⟩
  have hsV := hb.size
  replace q0 := cell_on q0 hb
  replace p0 := cell_on p0 hb
  replace q1 := cell_on q1 hb
  replace p1 := cell_on p1 hb
  replace q2 := cell_on q2 hb
  replace p2 := cell_on p2 hb
  clear g1
  have hsw : Soft w V := soY.trans hso hb
  have fp0 := hsw.fz (w.heap.size + 1) 0 (by omega) (by omega)
  have fp1 := hsw.fz (w.heap.size + 1) 1 (by omega) (by omega)
  have fp2 := hsw.fz (w.heap.size + 1) 2 (by omega) (by omega)
  have fq := hsw.fz (w.heap.size + 1 + 1) 2 (by omega) (by omega)
  have HN : Hid (Ints (fun b => w.heap.size + 3 ≤ b ∧ b < V.heap.size) .u8 V na' d.nl d.name) := (iY.later hb).wide (fun b hb => ⟨hb.1, by omega⟩)
  have HO : Hid (OpsA (fun b => w.heap.size + 3 ≤ b ∧ b < V.heap.size) V ba' d.bl d.body) := hO.wide (fun b hb => ⟨by have := hb.1; omega, hb.2⟩)
  have HBV : Hid (Below w.heap.size w V) := bel_tr bY hb
  have HSV : Hid (Soft w V) := hsw
  clear hb hso hO hsw iY soY bY
  go_wp2
  refine bodyPost_ret (v := .agg #[.slice na' d.nl nc', .bool d.has, .slice ba' d.bl bc']) ?_ rfl ?_
  · simp [results, Try.f115, go_sem, *]
  · refine ⟨⟨na', nc', ba', bc', rfl, ?_, ?_⟩, ?_, ?_⟩
    · refine Ints.wide (Q := fun b => w.heap.size + 3 ≤ b ∧ b < V.heap.size) (HN.out.on ?_) (fun b hb => ⟨by omega, by simp only [size_set]; exact hb.2⟩)
      exact (((stay_set _ _ _ (fun h => by have := h.1; simp at this <;> omega)).trans (stay_set _ _ _ (fun h => by have := h.1; simp at this <;> omega))).trans (stay_set _ _ _ (fun h => by have := h.1; simp at this <;> omega))).trans (stay_set _ _ _ (fun h => by have := h.1; simp at this <;> omega))
    · refine OpsA.wide (Q := fun b => w.heap.size + 3 ≤ b ∧ b < V.heap.size) (HO.out.on ?_) (fun b hb => ⟨by omega, by simp only [size_set]; exact hb.2⟩)
      exact (((stay_set _ _ _ (fun h => by have := h.1; simp at this <;> omega)).trans (stay_set _ _ _ (fun h => by have := h.1; simp at this <;> omega))).trans (stay_set _ _ _ (fun h => by have := h.1; simp at this <;> omega))).trans (stay_set _ _ _ (fun h => by have := h.1; simp at this <;> omega))
    · exact bel_set (bel_set (bel_set (bel_set (HBV.out) _ _ _ (by omega)) _ _ _ (by omega)) _ _ _ (by omega)) _ _ _ (by omega)
    · exact ((((HSV.out).set _ _).set _ _).set _ _).set _ _

end Go.Proofs.Ytjndcajblpgjmaa
