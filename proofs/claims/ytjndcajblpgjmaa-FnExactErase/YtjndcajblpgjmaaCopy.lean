/-
  Walks: copies.
-/
import Derived.Test.YtjndcajblpgjmaaSize
import Derived.Laws.MakeOwn
import Derived.Laws.ResultCell
import Derived.Test.YtjndcajblpgjmaaIter
namespace Go.Proofs.Ytjndcajblpgjmaa
open Go.RowKit
open M (OpD NodeD Gr)
set_option linter.unusedVariables false

/-- The blocks that are new in w'. -/
def New (w w' : World) : Nat → Prop := fun b => w.heap.size ≤ b ∧ b < w'.heap.size
/-- Nothing new is frozen. -/
def Soft (w w' : World) : Prop := ∀ b o, w.heap.size ≤ b → b < w'.heap.size → w'.frozen? ⟨b, o, none⟩ = false
theorem Soft.trans {a b c : World} (h : Soft a b) (k : Soft b c) (hb : Below b.heap.size b c) : Soft a c := fun x o h1 h2 => by
  by_cases e : x < b.heap.size
  · rw [hb.frozen (p := ⟨x, o, none⟩) e]; exact h x o h1 e
  · exact k x o (by omega) h2
theorem Soft.refl (w : World) : Soft w w := fun b o h1 h2 => by omega
theorem soft1 (w : World) (c : Array Value) (t : TypeId) : Soft w (w.alloc (.cells c t)) := fun b o h1 h2 => by
  simp at h2
  obtain rfl : b = w.heap.size := by omega
  have h := World.alloc_heap_new w (.cells c t)
  simp only [World.frozen?, h]
  simp

theorem cN {W : World} {c : Array Value} {t : TypeId} {j : Nat} {v : Value} (y : Nat) (hy : W.heap.size = y) (h : c[j]? = some v) : (W.alloc (.cells c t)).cell? ⟨y, j, none⟩ = some v := by
  subst hy
  have e := World.alloc_heap_new W (.cells c t)
  simp only [World.cell?, e]
  exact h

theorem Soft.set {w W : World} (h : Soft w W) (a : Addr) (v : Value) : Soft w (W.setCell a v) := fun b o h1 h2 => by
  rw [World.frozen?_setCell]
  exact h b o h1 (by simpa [World.setCell] using h2)
theorem stay_set {Q : Nat → Prop} (W : World) (a : Addr) (v : Value) (h : ¬ Q a.block) : Stay Q W (W.setCell a v) := fun b hb => Below.heap_setCell W a v b (fun e => h (e ▸ hb))
theorem bel_set {w W : World} (h : Below w.heap.size w W) (b o : Nat) (v : Value) (hb : w.heap.size ≤ b) : Below w.heap.size w (W.setCell ⟨b, o, none⟩ v) := h.setCell (p := ⟨b, o, none⟩) hb v
theorem size_set (W : World) (a : Addr) (v : Value) : (W.setCell a v).heap.size = W.heap.size := by simp [World.setCell]

structure CpS (A : World → Option Addr → Prop) (n : Nat) (w : World) (e : Ending) (w' : World) : Prop where
  val : ∃ a c, e = .returned (.slice a n c) ∧ A w' a
  bel : Below w.heap.size w w'
  soft : Soft w w'

theorem info5 : (Try.prog.info? 5).map (fun i => (i.zero, i.size, i.bytes)) = some (some (.int .u8 0), 1, 1) := by kernel_rfl
theorem info3' : (Try.prog.info? 3).map (fun i => (i.zero, i.size, i.bytes)) = some (some (.int .i64 0), 1, 8) := by kernel_rfl
theorem info95 : (Try.prog.info? 95).map (fun i => (i.zero, i.size, i.bytes)) = some (some (.agg #[.int .i64 0, .slice none 0 0, .int .i64 0]), 3, 40) := by kernel_rfl

def half (k : IntKind) (S : Nat → Int) (m : Nat) (j : Nat) : Value := if j < m then .int k (S j) else .int k 0
theorem half_step {k : IntKind} {t : TypeId} {w : World} {b n m : Nat} {S : Nat → Int} (h : w.rowIs b t n (half k S m)) : (w.setCell ⟨b, m, none⟩ (.int k (S m))).rowIs b t n (half k S (m + 1)) := by
  refine (h.set m (.int k (S m))).congr fun i _ => ?_
  unfold half
  by_cases e : i = m
  · subst e; simp
  · rw [if_neg e]
    by_cases e2 : i < m
    · rw [if_pos e2, if_pos (by omega)]
    · rw [if_neg e2, if_neg (by omega)]

def cpI (k : IntKind) (t : TypeId) (w : World) (n : Nat) (S : Nat → Int) (i : Value) (wr : World) : Prop :=
  ∃ m : Nat, m ≤ n ∧ i = .int .i64 (m : Int) ∧ wr.rowIs w.heap.size t n (half k S m) ∧ Below w.heap.size w wr ∧ wr.heap.size = w.heap.size + 1

theorem cp_end {k : IntKind} {t : TypeId} {w wr : World} {n : Nat} {S : Nat → Int} (h : wr.rowIs w.heap.size t n (half k S n)) (hb : Below w.heap.size w wr) (hs : wr.heap.size = w.heap.size + 1) :
    CpS (fun w' a => Ints (New w w') k w' a n S) n w (.returned (.slice (some ⟨w.heap.size, 0, none⟩) n n)) wr :=
  ⟨⟨_, _, rfl, .inr ⟨w.heap.size, 0, rfl, ⟨Nat.le_refl _, by omega⟩, fun i hi => by rw [Nat.zero_add, h.cell hi]; simp [half, hi]⟩⟩, hb, fun b o h1 h2 => by
    obtain rfl : b = w.heap.size := by omega
    exact h.frozen o⟩

set_option maxHeartbeats 1000000 in
theorem toByteS_any (Q : Nat → Prop) (a : Option Addr) (n c : Nat) (S : Nat → Int) (w : World) (hS : Ints Q .u8 w a n S) (hn : n ≤ 1048576) :
    Calls Try.prog 12 #[.slice a n c] w (CpS (fun w' a => Ints (New w w') .u8 w' a n S) n w) := by
  have hmk := run_make_row' (P := Try.prog) 22 5 (.int .u8 0) 1 Try.underlying22 info5 rfl .i64 .i64 n (by omega) (by omega)
  go_enter Try.func12, Try.ntmps12
  go_wp2
  go_loopw [4] (fun i wr => cpI .u8 5 w n S i wr) (fun i _ => n - (intOf i).toNat)
  case atStart => exact ⟨0, Nat.zero_le _, rfl, (World.rowIs_made w _ n 5).congr fun i _ => by simp [half], (Below.refl _ w).alloc (Nat.le_refl _) _, by simp⟩
  case round =>
    obtain ⟨m, hm, rfl, hrow, hbel, hsz⟩ := hrel
    by_cases hlt : m < n
    · rcases hS with h0 | ⟨b, off, rfl, hq, hS⟩
      · omega
      have hc1 := cell_on (hS m hlt) hbel
      have hc2 := hrow.cell hlt
      have hf2 := hrow.frozen m
      have hst := half_step hrow
      go_wp2
      go_roundw
      case rel => exact ⟨m + 1, by omega, by go_num, hst, hbel.setCell (p := ⟨w.heap.size, m, none⟩) (Nat.le_refl _) _, by simp [World.setCell, hsz]⟩
      case measure => simp [intOf]; omega
    · obtain rfl : m = n := by omega
      go_wp2
      go_ret
      exact cp_end hrow hbel hsz

set_option maxHeartbeats 1000000 in
theorem toIntS_any (Q : Nat → Prop) (a : Option Addr) (n c : Nat) (S : Nat → Int) (w : World) (hS : Ints Q .i64 w a n S) (hn : n ≤ 1048576) :
    Calls Try.prog 153 #[.slice a n c] w (CpS (fun w' a => Ints (New w w') .i64 w' a n S) n w) := by
  have hmk := run_make_row' (P := Try.prog) 57 3 (.int .i64 0) 8 Try.underlying57 info3' rfl .i64 .i64 n (by omega) (by omega)
  go_enter Try.func153, Try.ntmps153
  go_wp2
  go_loopw [4] (fun i wr => cpI .i64 3 w n S i wr) (fun i _ => n - (intOf i).toNat)
  case atStart => exact ⟨0, Nat.zero_le _, rfl, (World.rowIs_made w _ n 3).congr fun i _ => by simp [half], (Below.refl _ w).alloc (Nat.le_refl _) _, by simp⟩
  case round =>
    obtain ⟨m, hm, rfl, hrow, hbel, hsz⟩ := hrel
    by_cases hlt : m < n
    · rcases hS with h0 | ⟨b, off, rfl, hq, hS⟩
      · omega
      have hc1 := cell_on (hS m hlt) hbel
      have hc2 := hrow.cell hlt
      have hf2 := hrow.frozen m
      have hst := half_step hrow
      go_wp2
      go_roundw
      case rel => exact ⟨m + 1, by omega, by go_num, hst, hbel.setCell (p := ⟨w.heap.size, m, none⟩) (Nat.le_refl _) _, by simp [World.setCell, hsz]⟩
      case measure => simp [intOf]; omega
    · obtain rfl : m = n := by omega
      go_wp2
      go_ret
      exact cp_end hrow hbel hsz

/-- An element, copied. -/
structure CpOp (d : OpD) (w : World) (e : Ending) (w' : World) : Prop where
  val : ∃ a c, e = .returned (.agg #[.int .i64 d.kind, .slice a d.sl c, .int .i64 d.arg]) ∧ Ints (New w w') .i64 w' a d.sl d.set
  bel : Below w.heap.size w w'
  soft : Soft w w'

set_option maxHeartbeats 1000000 in
theorem toOp_any (Q : Nat → Prop) (a : Option Addr) (c : Nat) (d : OpD) (w : World) (hS : Ints Q .i64 w a d.sl d.set) (hn : d.sl ≤ 1048576) :
    Calls Try.prog 200 #[.agg #[.int .i64 d.kind, .slice a d.sl c, .int .i64 d.arg]] w (CpOp d w) := by
  have HS : Hid (Ints Q .i64 w a d.sl d.set) := hS
  clear hS
  go_enter Try.func200, Try.ntmps200
  go_wp2_with fail
  refine (toIntS_any Q a d.sl c d.set _ (HS.out.later (bel3 w _ _ _)) hn).mono ?_
  rintro e W ⟨⟨a', c', rfl, hI⟩, hb, hso⟩
  have x2 := cell_on (a := ⟨w.heap.size, 2, none⟩) (v := .int .i64 d.arg) (cellOn _ (cellOn _ (cN w.heap.size rfl rfl))) hb
  have y0 := cell_on (a := ⟨w.heap.size + 1, 0, none⟩) (v := .int .i64 0) (cellOn _ (cN (w.heap.size + 1) (by simp) rfl)) hb
  have y1 := cell_on (a := ⟨w.heap.size + 1, 1, none⟩) (v := .slice none 0 0) (cellOn _ (cN (w.heap.size + 1) (by simp) rfl)) hb
  have y2 := cell_on (a := ⟨w.heap.size + 1, 2, none⟩) (v := .int .i64 0) (cellOn _ (cN (w.heap.size + 1) (by simp) rfl)) hb
  have z0 := cell_on (a := ⟨w.heap.size + 1 + 1, 0, none⟩) (v := .int .i64 d.kind) (cN (w.heap.size + 1 + 1) (by simp) rfl) hb
  have z1 := cell_on (a := ⟨w.heap.size + 1 + 1, 1, none⟩) (v := .slice none 0 0) (cN (w.heap.size + 1 + 1) (by simp) rfl) hb
  have z2 := cell_on (a := ⟨w.heap.size + 1 + 1, 2, none⟩) (v := .int .i64 0) (cN (w.heap.size + 1 + 1) (by simp) rfl) hb
  have fz : ∀ b o, w.heap.size ≤ b → b < w.heap.size + 3 → W.frozen? ⟨b, o, none⟩ = false := fun b o h1 h2 => by
    rw [hb.frozen (p := ⟨b, o, none⟩) (by simp; omega)]
    exact (((soft1 w _ 246).trans (soft1 _ _ 95) (bel1 _ _)).trans (soft1 _ _ 95) (bel1 _ _)) b o h1 (by simp; omega)
  have fy0 := fz (w.heap.size + 1) 0 (by omega) (by omega)
  have fy1 := fz (w.heap.size + 1) 1 (by omega) (by omega)
  have fy2 := fz (w.heap.size + 1) 2 (by omega) (by omega)
  have fz1 := fz (w.heap.size + 1 + 1) 1 (by omega) (by omega)
  have fz2 := fz (w.heap.size + 1 + 1) 2 (by omega) (by omega)
  have HB : Hid (Below w.heap.size w W) := bel_tr (bel3 w _ _ _) hb
  have HSO : Hid (Soft w W) := (((soft1 w _ 246).trans (soft1 _ _ 95) (bel1 _ _)).trans (soft1 _ _ 95) (bel1 _ _)).trans hso hb
  have HI : Hid (Ints (fun b => w.heap.size + 3 ≤ b ∧ b < W.heap.size) .i64 W a' d.sl d.set) := hI.wide (fun b hb => ⟨by have := hb.1; simp at this; omega, hb.2⟩)
  clear hb hso hI fz
  go_wp2
  refine bodyPost_ret (v := .agg #[.int .i64 d.kind, .slice a' d.sl c', .int .i64 d.arg]) ?_ rfl ?_
  · simp [results, Try.f200, go_sem, *]
  · refine ⟨⟨a', c', rfl, ?_⟩, ?_, ?_⟩
    · refine Ints.wide (Q := fun b => w.heap.size + 3 ≤ b ∧ b < W.heap.size) (HI.out.on ?_) (fun b hb => ⟨by omega, by simp only [size_set]; exact hb.2⟩)
      exact ((((stay_set _ _ _ (fun h => by have := h.1; simp at this <;> omega)).trans (stay_set _ _ _ (fun h => by have := h.1; simp at this <;> omega))).trans (stay_set _ _ _ (fun h => by have := h.1; simp at this <;> omega))).trans (stay_set _ _ _ (fun h => by have := h.1; simp at this <;> omega))).trans (stay_set _ _ _ (fun h => by have := h.1; simp at this <;> omega))
    · exact bel_set (bel_set (bel_set (bel_set (bel_set HB.out _ _ _ (by omega)) _ _ _ (by omega)) _ _ _ (by omega)) _ _ _ (by omega)) _ _ _ (by omega)
    · exact ((((HSO.out.set _ _).set _ _).set _ _).set _ _).set _ _

theorem make95 (n : Nat) (hn : n ≤ 1048576) (w : World) : (Instr.makeSlice 74 (.int .i64 (n : Int)) (.int .i64 (n : Int))).run Try.prog w = .ok (.slice (some ⟨w.heap.size, 0, none⟩) n n) (w.alloc (.cells (madeCells #[.int .i64 0, .slice none 0 0, .int .i64 0] (n * 3)) 95)) := by
  obtain ⟨i, hi, hzz⟩ := Option.map_eq_some_iff.1 info95
  simp only [Prod.mk.injEq] at hzz
  obtain ⟨hz, hs, hb⟩ := hzz
  have hr := run_make (P := Try.prog) w 74 95 i _ Try.underlying74 hi hz .i64 .i64 n n (by omega) (Int.le_refl _) (by rw [hb]; omega) (by omega)
  simp only [Int.toNat_natCast, hs] at hr
  exact hr

/-- A row of cells, whatever they hold. -/
def Row (w : World) (b : Nat) (t : TypeId) (n : Nat) : Prop := ∃ f, w.rowIs b t n f
theorem row_made (w : World) (z : Array Value) (n : Nat) (t : TypeId) (hz : 0 < z.size) : Row (w.alloc (.cells (madeCells z n) t)) w.heap.size t n :=
  ⟨fun i => z[i % z.size]!, madeCells z n, World.alloc_heap_new _ _, size_madeCells _ _, fun i hi => by simp [madeCells, hi]⟩
theorem Row.of_block {w w' : World} {b : Nat} {t : TypeId} {n : Nat} (h : Row w b t n) (e : w'.heap[b]? = w.heap[b]?) : Row w' b t n := h.imp fun _ h => h.of_block e
theorem Row.set {w : World} {b : Nat} {t : TypeId} {n : Nat} (h : Row w b t n) (i : Nat) (v : Value) : Row (w.setCell ⟨b, i, none⟩ v) b t n := let ⟨_, h⟩ := h; ⟨_, h.set i v⟩
theorem Row.cell {w : World} {b : Nat} {t : TypeId} {n : Nat} (h : Row w b t n) {i : Nat} (hi : i < n) : ∃ v, w.cell? ⟨b, i, none⟩ = some v := let ⟨_, h⟩ := h; ⟨_, h.cell hi⟩
theorem Row.frozen {w : World} {b : Nat} {t : TypeId} {n : Nat} (h : Row w b t n) (i : Nat) : w.frozen? ⟨b, i, none⟩ = false := let ⟨_, h⟩ := h; h.frozen i
theorem cell_set_same {w : World} {b i : Nat} {v u : Value} (h : w.cell? ⟨b, i, none⟩ = some u) : (w.setCell ⟨b, i, none⟩ v).cell? ⟨b, i, none⟩ = some v := World.cell?_setCell_same' _ _ _ (by rw [h]; rfl)
theorem cell_set_other {w : World} {b i j : Nat} {v : Value} (h : i ≠ j) : (w.setCell ⟨b, i, none⟩ v).cell? ⟨b, j, none⟩ = w.cell? ⟨b, j, none⟩ := World.cell?_setCell_other w _ _ v (fun e => h (by injection e))

/-- Three stores in a row. -/
def put3 (w : World) (b o : Nat) (v0 v1 v2 : Value) : World := ((w.setCell ⟨b, o, none⟩ v0).setCell ⟨b, o + 1, none⟩ v1).setCell ⟨b, o + 2, none⟩ v2
theorem put3_cells {w : World} {b o n : Nat} {t : TypeId} {v0 v1 v2 : Value} (h : Row w b t n) (hn : o + 2 < n) :
    (put3 w b o v0 v1 v2).cell? ⟨b, o, none⟩ = some v0 ∧ (put3 w b o v0 v1 v2).cell? ⟨b, o + 1, none⟩ = some v1 ∧ (put3 w b o v0 v1 v2).cell? ⟨b, o + 2, none⟩ = some v2 := by
  obtain ⟨u0, h0⟩ := h.cell (i := o) (by omega)
  obtain ⟨u1, h1⟩ := (h.set o v0).cell (i := o + 1) (by omega)
  obtain ⟨u2, h2⟩ := ((h.set o v0).set (o + 1) v1).cell (i := o + 2) (by omega)
  unfold put3
  refine ⟨?_, ?_, cell_set_same h2⟩
  · rw [cell_set_other (by omega), cell_set_other (by omega)]; exact cell_set_same h0
  · rw [cell_set_other (by omega)]; exact cell_set_same h1
theorem put3_other {w : World} {b o j : Nat} {v0 v1 v2 : Value} (h : j < o ∨ o + 2 < j) : (put3 w b o v0 v1 v2).cell? ⟨b, j, none⟩ = w.cell? ⟨b, j, none⟩ := by
  unfold put3
  rw [cell_set_other (by omega), cell_set_other (by omega), cell_set_other (by omega)]
theorem put3_stay {Q : Nat → Prop} {w : World} {b o : Nat} {v0 v1 v2 : Value} (h : ¬ Q b) : Stay Q w (put3 w b o v0 v1 v2) := ((stay_set _ ⟨b, o, none⟩ _ h).trans (stay_set _ ⟨b, o + 1, none⟩ _ h)).trans (stay_set _ ⟨b, o + 2, none⟩ _ h)
theorem put3_row {w : World} {b o n : Nat} {t : TypeId} {v0 v1 v2 : Value} (h : Row w b t n) : Row (put3 w b o v0 v1 v2) b t n := ((h.set _ _).set _ _).set _ _
theorem put3_size (w : World) (b o : Nat) (v0 v1 v2 : Value) : (put3 w b o v0 v1 v2).heap.size = w.heap.size := by simp [put3, World.setCell]
theorem put3_soft {w W : World} (h : Soft w W) (b o : Nat) (v0 v1 v2 : Value) : Soft w (put3 W b o v0 v1 v2) := ((h.set _ _).set _ _).set _ _
theorem put3_bel {w W : World} (h : Below w.heap.size w W) (b o : Nat) (v0 v1 v2 : Value) (hb : w.heap.size ≤ b) : Below w.heap.size w (put3 W b o v0 v1 v2) := bel_set (bel_set (bel_set h _ _ _ hb) _ _ _ hb) _ _ _ hb

theorem OpC.put {Q : Nat → Prop} {w : World} {b o o' : Nat} {d : OpD} {v0 v1 v2 : Value} (h : OpC Q w b o d) (hq : ¬ Q b) (ho : o + 2 < o' ∨ o' + 2 < o) : OpC Q (put3 w b o' v0 v1 v2) b o d := by
  obtain ⟨h1, ⟨a, c, h2, h3⟩, h4⟩ := h
  exact ⟨(put3_other (by omega)).trans h1, ⟨a, c, (put3_other (by omega)).trans h2, h3.on (put3_stay hq)⟩, (put3_other (by omega)).trans h4⟩

def opsI (w : World) (n : Nat) (B : Nat → OpD) (i : Value) (wr : World) : Prop :=
  ∃ m : Nat, m ≤ n ∧ i = .int .i64 (m : Int) ∧ Row wr w.heap.size 95 (n * 3) ∧ (∀ j, j < m → OpC (fun b => w.heap.size < b ∧ b < wr.heap.size) wr w.heap.size (0 + j * 3) (B j)) ∧ Below w.heap.size w wr ∧ w.heap.size < wr.heap.size ∧ Soft w wr

set_option maxHeartbeats 2000000 in
theorem toOpS_any (Q : Nat → Prop) (a : Option Addr) (n c : Nat) (B : Nat → OpD) (w : World) (hB : OpsA Q w a n B) (hs : SmallB n B) :
    Calls Try.prog 166 #[.slice a n c] w (CpS (fun w' a => OpsA (New w w') w' a n B) n w) := by
  obtain ⟨hn, hsl⟩ := hs
  have hmk := make95 n hn
  have HB : Hid (OpsA Q w a n B) := hB
  have HSL : Hid (∀ i, i < n → (B i).sl ≤ 1048576) := hsl
  clear hB hsl
  go_enter Try.func166, Try.ntmps166
  go_wp2
  go_loopw [4] (fun i wr => opsI w n B i wr) (fun i _ => n - (intOf i).toNat)
  case atStart => exact ⟨0, Nat.zero_le _, rfl, row_made w _ _ 95 (by simp), fun j hj => absurd hj (Nat.not_lt_zero _), bel1 w _, by simp, soft1 w _ 95⟩
  case round =>
    obtain ⟨m, hm, rfl, hrow, hops, hbel, hsz, hsoft⟩ := hrel
    by_cases hlt : m < n
    · have hB := HB.out.later hbel
      rcases hB with h0 | ⟨b, off, rfl, hq, hB⟩
      · omega
      obtain ⟨c0, ⟨sa, sc, c1, hs⟩, c2⟩ := hB m hlt
      have HS : Hid (Ints Q .i64 wr sa (B m).sl (B m).set) := hs
      have hsl := HSL.out m hlt
      have HROW : Hid (Row wr w.heap.size 95 (n * 3)) := hrow
      have HOPS : Hid (∀ j, j < m → OpC (fun b => w.heap.size < b ∧ b < wr.heap.size) wr w.heap.size (0 + j * 3) (B j)) := hops
      have HBE : Hid (Below w.heap.size w wr) := hbel
      have HSO : Hid (Soft w wr) := hsoft
      clear hB hs hrow hops hbel hsoft hmk
      go_wp2_with fail
      refine (toOp_any Q sa sc (B m) _ HS.out hsl).mono ?_
      rintro e W ⟨⟨a', c', rfl, hI⟩, hb, hso⟩
      have hrw : Row W w.heap.size 95 (n * 3) := HROW.out.of_block (hb.block _ hsz)
      obtain ⟨u0, r0⟩ := hrw.cell (i := m * 3) (by omega)
      obtain ⟨u1, r1⟩ := hrw.cell (i := m * 3 + 1) (by omega)
      obtain ⟨u2, r2⟩ := hrw.cell (i := m * 3 + 2) (by omega)
      have f0 := hrw.frozen (m * 3)
      have f1 := hrw.frozen (m * 3 + 1)
      have f2 := hrw.frozen (m * 3 + 2)
      have HRW : Hid (Row W w.heap.size 95 (n * 3)) := hrw
      have HB2 : Hid (Below wr.heap.size wr W) := hb
      have HSO2 : Hid (Soft wr W) := hso
      have HI : Hid (Ints (New wr W) .i64 W a' (B m).sl (B m).set) := hI
      clear hrw hb hso hI
      go_wp2
      go_roundw
      case rel =>
        show opsI w n B _ (put3 W w.heap.size (m * 3) _ _ _)
        have hsz2 := HB2.out.size
        obtain ⟨p0, p1, p2⟩ := put3_cells (v0 := .int .i64 (B m).kind) (v1 := .slice a' (B m).sl c') (v2 := .int .i64 (B m).arg) HRW.out (o := m * 3) (by omega)
        refine ⟨m + 1, by omega, by go_num, put3_row HRW.out, all_snoc (fun j hj => ?_) ?_, put3_bel (bel_tr HBE.out HB2.out) _ _ _ _ _ (Nat.le_refl _), by rw [put3_size]; omega, put3_soft (HSO.out.trans HSO2.out HB2.out) _ _ _ _ _⟩
        · exact (((HOPS.out j hj).later HB2.out).put (fun h => by omega) (by omega)).wide (fun b hb => ⟨hb.1, by rw [put3_size]; omega⟩)
        · rw [Nat.zero_add]
          exact ⟨p0, ⟨a', c', p1, (HI.out.on (put3_stay (fun h => by have := h.1; omega))).wide (fun b hb => ⟨by have := hb.1; omega, by rw [put3_size]; exact hb.2⟩)⟩, p2⟩
      case measure => simp [intOf]; omega
    · obtain rfl : m = n := by omega
      go_wp2
      go_ret
      refine ⟨⟨_, _, rfl, .inr ⟨w.heap.size, 0, rfl, ⟨Nat.le_refl _, hsz⟩, fun i hi => ?_⟩⟩, hbel, hsoft⟩
      exact (hops i hi).wide (fun b hb => ⟨by omega, hb.2⟩)

end Go.Proofs.Ytjndcajblpgjmaa
