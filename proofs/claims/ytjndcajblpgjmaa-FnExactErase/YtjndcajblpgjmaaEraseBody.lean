/-
  Walks: a body with its throws erased.
-/
import Derived.Test.YtjndcajblpgjmaaClone
import Derived.Deep.RegionHeld3
namespace Go.Proofs.Ytjndcajblpgjmaa
open Go.RowKit
open M (OpD NodeD Gr)
set_option linter.unusedVariables false

def er (d : OpD) : OpD := if d.kind = 3 then ⟨1, 0, fun _ => 0, 0⟩ else d

/-- A list of elements that owns its memory: the row in one block, each set in blocks of its own behind it. -/
def OpsO (lo hi : Nat) (w : World) (a : Option Addr) (n : Nat) (B : Nat → OpD) : Prop :=
  n = 0 ∨ ∃ b, a = some ⟨b, 0, none⟩ ∧ lo ≤ b ∧ b < hi ∧ ∃ l : Nat → Nat, (∀ i, i < n → b < l i ∧ l i ≤ l (i + 1) ∧ l (i + 1) ≤ hi) ∧ ∀ i, i < n → OpC (fun x => l i ≤ x ∧ x < l (i + 1)) w b (0 + i * 3) (B i)

theorem OpsO.ops {lo hi : Nat} {w : World} {a : Option Addr} {n : Nat} {B : Nat → OpD} (h : OpsO lo hi w a n B) : OpsA (fun b => lo ≤ b ∧ b < hi) w a n B := by
  rcases h with h | ⟨b, e, h1, h2, l, hl, h⟩
  · exact .inl h
  · exact .inr ⟨b, 0, e, ⟨h1, h2⟩, fun i hi => (h i hi).wide (fun x hx => ⟨by have := (hl i hi).1; omega, by have := (hl i hi).2.2; omega⟩)⟩

def erI (w : World) (n : Nat) (B : Nat → OpD) (i : Value) (wr : World) : Prop :=
  ∃ m : Nat, m ≤ n ∧ i = .int .i64 (m : Int) ∧ Row wr w.heap.size 95 (n * 3) ∧
    (∃ l : Nat → Nat, (∀ j, j < m → w.heap.size < l j ∧ l j ≤ l (j + 1)) ∧ w.heap.size < l m ∧ l m ≤ wr.heap.size ∧ ∀ j, j < m → OpC (fun x => l j ≤ x ∧ x < l (j + 1)) wr w.heap.size (0 + j * 3) (er (B j))) ∧
    Below w.heap.size w wr ∧ w.heap.size < wr.heap.size ∧ Soft w wr

theorem set3_far {W : World} {b b' i j k o : Nat} {v0 v1 v2 : Value} (h : b ≠ b') : (((W.setCell ⟨b, i, none⟩ v0).setCell ⟨b, j, none⟩ v1).setCell ⟨b, k, none⟩ v2).cell? ⟨b', o, none⟩ = W.cell? ⟨b', o, none⟩ := by
  rw [cell_set_far h, cell_set_far h, cell_set_far h]

/-- One element more. -/
theorem er_step {w wr W : World} {n m : Nat} {B : Nat → OpD} {l : Nat → Nat} {d : OpD} {a' : Option Addr} {c' : Nat} (hlt : m < n) (hrow : Row W w.heap.size 95 (n * 3)) (hl1 : ∀ j, j < m → w.heap.size < l j ∧ l j ≤ l (j + 1)) (hl2 : w.heap.size < l m) (hl3 : l m ≤ wr.heap.size)
    (hops : ∀ j, j < m → OpC (fun x => l j ≤ x ∧ x < l (j + 1)) wr w.heap.size (0 + j * 3) (er (B j))) (hbe : Below w.heap.size w wr) (hsz : w.heap.size < wr.heap.size) (hb : Below wr.heap.size wr W) (hso : Soft w W) (hI : Ints (fun x => wr.heap.size ≤ x ∧ x < W.heap.size) .i64 W a' d.sl d.set) (hd : er (B m) = d) :
    erI w n B (.int .i64 ((m : Int) + 1)) (put3 W w.heap.size (m * 3) (.int .i64 d.kind) (.slice a' d.sl c') (.int .i64 d.arg)) := by
  have hs2 := hb.size
  obtain ⟨p0, p1, p2⟩ := put3_cells (v0 := .int .i64 d.kind) (v1 := .slice a' d.sl c') (v2 := .int .i64 d.arg) hrow (o := m * 3) (by omega)
  refine ⟨m + 1, by omega, by rw [Int.natCast_add]; rfl, put3_row hrow, ⟨fun i => if i ≤ m then l i else W.heap.size, fun j hj => ?_, ?_, ?_, all_snoc (fun j hj => ?_) ?_⟩, put3_bel (bel_tr hbe hb) _ _ _ _ _ (Nat.le_refl _), by rw [put3_size]; omega, put3_soft hso _ _ _ _ _⟩
  · by_cases e : j < m
    · simp only [show j ≤ m by omega, show j + 1 ≤ m by omega, if_true]; exact hl1 j e
    · obtain rfl : j = m := by omega
      simp only [Nat.le_refl, if_true, show ¬ (j + 1 ≤ j) by omega, if_false]
      exact ⟨hl2, by omega⟩
  · simp only [show ¬ (m + 1 ≤ m) by omega, if_false]; omega
  · simp only [show ¬ (m + 1 ≤ m) by omega, if_false, put3_size]; exact Nat.le_refl _
  · simp only [show j ≤ m by omega, show j + 1 ≤ m by omega, if_true]
    exact (((hops j hj).later hb).put (fun h => by have := (hl1 j hj).1; omega) (by omega))
  · simp only [Nat.le_refl, if_true, show ¬ (m + 1 ≤ m) by omega, if_false]
    rw [Nat.zero_add, hd]
    exact ⟨p0, ⟨a', c', p1, (hI.on (put3_stay (fun h => by have := h.1; omega))).wide (fun b hb => ⟨by have := hb.1; omega, hb.2⟩)⟩, p2⟩

/-- What is known behind the copy of an element's set. -/
theorem er_call {w wr W : World} {c : Array Value} {t : TypeId} {N : Nat} {k : IntKind} {a' : Option Addr} {sl : Nat} {S : Nat → Int} (hrow : Row wr w.heap.size 95 N) (hsz : w.heap.size < wr.heap.size) (hbe : Below w.heap.size w wr) (hso : Soft w wr)
    (hb : Below (wr.alloc (.cells c t)).drew.heap.size (wr.alloc (.cells c t)).drew W) (hs : Soft (wr.alloc (.cells c t)).drew W) (hI : Ints (New (wr.alloc (.cells c t)).drew W) k W a' sl S) :
    Row W w.heap.size 95 N ∧ Hid (Below wr.heap.size wr W) ∧ Hid (Soft w W) ∧ Hid (Ints (fun x => wr.heap.size ≤ x ∧ x < W.heap.size) k W a' sl S) ∧ wr.heap.size ≤ W.heap.size := by
  have hb1 : Below wr.heap.size wr (wr.alloc (.cells c t)).drew := (bel1 wr _).drew
  have hb2 : Below wr.heap.size wr W := bel_tr hb1 hb
  refine ⟨hrow.of_block (hb2.block _ hsz), hb2, ?_, ?_, hb2.size⟩
  · have h1 : Soft w (wr.alloc (.cells c t)).drew := hso.trans (soft1 wr c t) (bel1 wr _).drew
    exact h1.trans hs hb
  · refine hI.wide (fun x hx => ⟨?_, hx.2⟩)
    have := hx.1
    simp at this
    omega

set_option maxHeartbeats 4000000 in
theorem eraseBody_any (Q : Nat → Prop) (a : Option Addr) (n c : Nat) (B : Nat → OpD) (w : World) (hB : OpsA Q w a n B) (hs : SmallB n B) :
    Calls Try.prog 71 #[.slice a n c] w (CpS (fun w' a => OpsO w.heap.size w'.heap.size w' a n (fun i => er (B i))) n w) := by
  obtain ⟨hn, hsl⟩ := hs
  have hmk := make95 n hn
  have HB : Hid (OpsA Q w a n B) := hB
  have HSL : Hid (∀ i, i < n → (B i).sl ≤ 1048576) := hsl
  clear hB hsl
  go_enter Try.func71, Try.ntmps71
  go_wp2
  go_loopw [11] (fun i wr => erI w n B i wr) (fun i _ => n - (intOf i).toNat)
  case atStart => exact ⟨0, Nat.zero_le _, rfl, row_made w _ _ 95 (by simp), ⟨fun _ => w.heap.size + 1, fun j hj => absurd hj (Nat.not_lt_zero _), Nat.lt_succ_self _, by simp, fun j hj => absurd hj (Nat.not_lt_zero _)⟩, bel1 w _, by simp, soft1 w _ 95⟩
  case round =>
    obtain ⟨m, hm, rfl, hrow, ⟨l, hl1, hl2, hl3, hops⟩, hbel, hsz, hsoft⟩ := hrel
    by_cases hlt : m < n
    · have hB := HB.out.later hbel
      rcases hB with h0 | ⟨b, off, rfl, hq, hB⟩
      · omega
      obtain ⟨c0, ⟨sa, sc, c1, hs⟩, c2⟩ := hB m hlt
      have hbl : b < wr.heap.size := lt_of_cell c0
      have HS : Hid (Ints Q .i64 wr sa (B m).sl (B m).set) := hs
      have hsl := HSL.out m hlt
      have hlt' : (m : Int) < (n : Int) := by omega
      have HROW : Hid (Row wr w.heap.size 95 (n * 3)) := hrow
      have HL : Hid (∀ j, j < m → w.heap.size < l j ∧ l j ≤ l (j + 1)) := hl1
      have HOPS : Hid (∀ j, j < m → OpC (fun x => l j ≤ x ∧ x < l (j + 1)) wr w.heap.size (0 + j * 3) (er (B j))) := hops
      have HBE : Hid (Below w.heap.size w wr) := hbel
      have HSO : Hid (Soft w wr) := hsoft
      clear hB hs hrow hops hbel hsoft hmk hl1
      by_cases e3 : (B m).kind = 3
      · have f3 : ((B m).kind == 3) = true := by simp [e3]
        have HE : Hid (er (B m) = ⟨1, 0, fun _ => 0, 0⟩) := by show er (B m) = _; unfold er; rw [if_pos e3]
        clear e3
        go_wp2_with fail
        go_region_held3 (fun W' => W'.cell? ⟨wr.heap.size, 0, none⟩ = some (.int .i64 1) ∧ W'.cell? ⟨wr.heap.size, 1, none⟩ = some (.slice none 0 0) ∧ W'.cell? ⟨wr.heap.size, 2, none⟩ = some (.int .i64 0)) (first | (rw [set3_far (Nat.ne_of_lt hsz), set3_far (Nat.ne_of_lt hsz), set3_far (Nat.ne_of_lt hsz)]; exact ⟨z0, z1, z2⟩) | exact ⟨z0, z1, z2⟩ | go_keep) (first | (go_at_call 130; refine (sliceClone_any Q none 0 0 (fun _ => 0) _ (.inl rfl) (by omega)).mono ?_; rintro e W ⟨⟨a', c', rfl, hI⟩, hb, hso⟩; have z0 := cell_on (w := (wr.alloc (.cells #[.int .i64 1, .slice none 0 0, .int .i64 0] 95)).drew) (a := ⟨wr.heap.size, 0, none⟩) (v := .int .i64 1) (cN (W := wr) wr.heap.size rfl rfl) hb; have z1 := cell_on (w := (wr.alloc (.cells #[.int .i64 1, .slice none 0 0, .int .i64 0] 95)).drew) (a := ⟨wr.heap.size, 1, none⟩) (v := .slice none 0 0) (cN (W := wr) wr.heap.size rfl rfl) hb; have z2 := cell_on (w := (wr.alloc (.cells #[.int .i64 1, .slice none 0 0, .int .i64 0] 95)).drew) (a := ⟨wr.heap.size, 2, none⟩) (v := .int .i64 0) (cN (W := wr) wr.heap.size rfl rfl) hb; obtain ⟨hrw, HB2, HSO2, HI, hs2⟩ := er_call HROW.out hsz HBE.out HSO.out hb hso hI; obtain ⟨u0, r0⟩ := hrw.cell (i := m * 3) (by omega); obtain ⟨u1, r1⟩ := hrw.cell (i := m * 3 + 1) (by omega); obtain ⟨u2, r2⟩ := hrw.cell (i := m * 3 + 2) (by omega); have f0 := hrw.frozen (m * 3); have f1 := hrw.frozen (m * 3 + 1); have f2 := hrw.frozen (m * 3 + 2); have HRW : Hid (Row W w.heap.size 95 (n * 3)) := hrw; clear hrw hb hso hI))
        all_goals go_wp2
        all_goals go_roundw
        case rel =>
          have hst := er_step (c' := c') (d := ⟨1, 0, fun _ => 0, 0⟩) hlt HRW.out HL.out hl2 hl3 HOPS.out HBE.out hsz HB2.out HSO2.out HI.out HE.out
          simp only [put3] at hst
          exact hst
        case measure => simp [intOf]; omega
      · have f3 : ((B m).kind == 3) = false := by simp [e3]
        have HE : Hid (er (B m) = B m) := by show er (B m) = _; unfold er; rw [if_neg e3]
        clear e3
        go_wp2_with fail
        go_region_held3 (fun W' => W'.cell? ⟨wr.heap.size, 0, none⟩ = some (.int .i64 (B m).kind) ∧ W'.cell? ⟨wr.heap.size, 1, none⟩ = some (.slice sa (B m).sl sc) ∧ W'.cell? ⟨wr.heap.size, 2, none⟩ = some (.int .i64 (B m).arg)) (first | (rw [set3_far (Nat.ne_of_lt hsz), set3_far (Nat.ne_of_lt hsz), set3_far (Nat.ne_of_lt hsz)]; exact ⟨z0, z1, z2⟩) | exact ⟨z0, z1, z2⟩ | go_keep) (first | (go_at_call 130; refine (sliceClone_any Q sa (B m).sl sc (B m).set _ (HS.out.later (bel1 wr (.cells #[.int .i64 (B m).kind, .slice sa (B m).sl sc, .int .i64 (B m).arg] 95)).drew) hsl).mono ?_; rintro e W ⟨⟨a', c', rfl, hI⟩, hb, hso⟩; have z0 := cell_on (w := (wr.alloc (.cells #[.int .i64 (B m).kind, .slice sa (B m).sl sc, .int .i64 (B m).arg] 95)).drew) (a := ⟨wr.heap.size, 0, none⟩) (v := .int .i64 (B m).kind) (cN (W := wr) wr.heap.size rfl rfl) hb; have z1 := cell_on (w := (wr.alloc (.cells #[.int .i64 (B m).kind, .slice sa (B m).sl sc, .int .i64 (B m).arg] 95)).drew) (a := ⟨wr.heap.size, 1, none⟩) (v := .slice sa (B m).sl sc) (cN (W := wr) wr.heap.size rfl rfl) hb; have z2 := cell_on (w := (wr.alloc (.cells #[.int .i64 (B m).kind, .slice sa (B m).sl sc, .int .i64 (B m).arg] 95)).drew) (a := ⟨wr.heap.size, 2, none⟩) (v := .int .i64 (B m).arg) (cN (W := wr) wr.heap.size rfl rfl) hb; obtain ⟨hrw, HB2, HSO2, HI, hs2⟩ := er_call HROW.out hsz HBE.out HSO.out hb hso hI; obtain ⟨u0, r0⟩ := hrw.cell (i := m * 3) (by omega); obtain ⟨u1, r1⟩ := hrw.cell (i := m * 3 + 1) (by omega); obtain ⟨u2, r2⟩ := hrw.cell (i := m * 3 + 2) (by omega); have f0 := hrw.frozen (m * 3); have f1 := hrw.frozen (m * 3 + 1); have f2 := hrw.frozen (m * 3 + 2); have HRW : Hid (Row W w.heap.size 95 (n * 3)) := hrw; clear hrw hb hso hI))
        all_goals go_wp2
        all_goals go_roundw
        case rel =>
          have hst := er_step (c' := c') (d := B m) hlt HRW.out HL.out hl2 hl3 HOPS.out HBE.out hsz HB2.out HSO2.out HI.out HE.out
          simp only [put3] at hst
          exact hst
        case measure => simp [intOf]; omega
    · obtain rfl : m = n := by omega
      go_wp2
      go_ret
      refine ⟨⟨_, _, rfl, ?_⟩, hbel, hsoft⟩
      by_cases h0 : m = 0
      · exact .inl h0
      · refine .inr ⟨w.heap.size, rfl, Nat.le_refl _, hsz, fun i => if i ≤ m then l i else wr.heap.size, fun i hi => ?_, fun i hi => ?_⟩
        · simp only [show i ≤ m by omega, show i + 1 ≤ m by omega, if_true]
          refine ⟨(hl1 i hi).1, (hl1 i hi).2, ?_⟩
          have mono : ∀ d, i + 1 + d ≤ m → l (i + 1) ≤ l (i + 1 + d) := by
            intro d
            induction d with
            | zero => intro _; exact Nat.le_refl _
            | succ d ih => intro hd; exact Nat.le_trans (ih (by omega)) (hl1 (i + 1 + d) (by omega)).2
          have := mono (m - (i + 1)) (by omega)
          rw [show i + 1 + (m - (i + 1)) = m by omega] at this
          omega
        · have := hops i hi
          simpa only [show i ≤ m by omega, show i + 1 ≤ m by omega, if_true] using this

end Go.Proofs.Ytjndcajblpgjmaa
