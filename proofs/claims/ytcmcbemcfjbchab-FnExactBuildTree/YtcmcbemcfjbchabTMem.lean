/-
  Walks: events as arguments, nodes as answers: how great, copies, marks; the same is told to be the same.
-/
import Derived.Test.YtcmcbemcfjbchabROut
import Derived.Test.YtcmcbemcfjbchabAppC
namespace Go.Proofs.Ytcmcbemcfjbchab
open Go.ChangeShapes Go.WideShapes Go.ChangeAt Go.RowKit Go.Deep
set_option linter.unusedVariables false
set_option linter.unusedSimpArgs false

/-! ### Events handed in -/
set_option maxHeartbeats 1000000 in
theorem szEventS_any (a : Option Addr) (n c : Nat) (left : Int) (w : World) (h0 : 0 ≤ left) (h1 : left ≤ 1048576) (hn : n ≤ 9223372036854775807) :
    Calls Try.prog 48 #[.slice a n c, .int .i64 left] w (SzIs left (n ≤ 1048576) w) := by
  by_cases hl : left - (n : Int) < 0
  · go_enter Try.func48, Try.ntmps48
    go_wp2
    go_ret
    exact ⟨⟨-1, rfl, by omega, fun h => by omega⟩, Below.refl _ _⟩
  · go_enter Try.func48, Try.ntmps48
    go_wp2
    go_ret
    exact ⟨⟨left - n, rfl, by omega, fun h => by omega⟩, Below.refl _ _⟩

/-- An event, copied. -/
def CpEv (d : EvD) (w : World) (e : Ending) (w' : World) : Prop := e = .returned (.agg #[.int .i64 d.kind, .int .i64 d.arg, .int .i64 d.pos]) ∧ Below w.heap.size w w' ∧ Soft w w'

set_option maxRecDepth 100000 in
set_option maxHeartbeats 4000000 in
theorem toEvent_any (d : EvD) (w : World) :
    Calls Try.prog 114 #[.agg #[.int .i64 d.kind, .int .i64 d.arg, .int .i64 d.pos]] w (CpEv d w) := by
  go_enter Try.func114, Try.ntmps114
  go_wp2
  refine bodyPost_ret (v := .agg #[.int .i64 d.kind, .int .i64 d.arg, .int .i64 d.pos]) ?_ rfl ?_
  · simp [results, Try.f114, go_sem, *]
  · exact ⟨rfl, bel3 w _ _ _, ((soft1 w _ 157).trans (soft1 _ _ 153) (bel1 _ _)).trans (soft1 _ _ 153) (bel1 _ _)⟩

theorem info153 : (Try.prog.info? 153).map (fun i => (i.zero, i.size, i.bytes)) = some (some (.agg #[.int .i64 0, .int .i64 0, .int .i64 0]), 3, 24) := by kernel_rfl
theorem make153 (n : Nat) (hn : n ≤ 1048576) (w : World) : (Instr.makeSlice 58 (.int .i64 (n : Int)) (.int .i64 (n : Int))).run Try.prog w = .ok (.slice (some ⟨w.heap.size, 0, none⟩) n n) (w.alloc (.cells (madeCells #[.int .i64 0, .int .i64 0, .int .i64 0] (n * 3)) 153)) := by
  obtain ⟨i, hi, hzz⟩ := Option.map_eq_some_iff.1 info153
  simp only [Prod.mk.injEq] at hzz
  obtain ⟨hz, hs, hb⟩ := hzz
  have hr := run_make (P := Try.prog) w 58 153 i _ Try.underlying58 hi hz .i64 .i64 n n (by omega) (Int.le_refl _) (by rw [hb]; omega) (by omega)
  simp only [Int.toNat_natCast, hs] at hr
  exact hr
def evtI (w : World) (n : Nat) (B : Nat → EvD) (i : Value) (wr : World) : Prop :=
  ∃ m : Nat, m ≤ n ∧ i = .int .i64 (m : Int) ∧ Row wr w.heap.size 153 (n * 3) ∧ (∀ j, j < m → EvC wr w.heap.size (j * 3) (B j)) ∧ Below w.heap.size w wr ∧ w.heap.size < wr.heap.size ∧ Soft w wr

/-- Events, copied: they lie in a row of their own that may be written. -/
structure CpE (n : Nat) (B : Nat → EvD) (w : World) (e : Ending) (w' : World) : Prop where
  val : ∃ a c, e = .returned (.slice a n c) ∧ EvW (New w w') w' a n B
  bel : Below w.heap.size w w'
  soft : Soft w w'

set_option maxRecDepth 100000 in
set_option maxHeartbeats 4000000 in
theorem toEventS_any (Q : Nat → Prop) (a : Option Addr) (n c : Nat) (B : Nat → EvD) (w : World) (hB : EvA Q w a n B) (hn : n ≤ 1048576) :
    Calls Try.prog 50 #[.slice a n c] w (CpE n B w) := by
  have hmk := make153 n hn
  have HB : Hid (EvA Q w a n B) := hB
  clear hB
  go_enter Try.func50, Try.ntmps50
  go_wp2
  go_loopw [4] (fun i wr => evtI w n B i wr) (fun i _ => n - (intOf i).toNat)
  case atStart => exact ⟨0, Nat.zero_le _, rfl, row_made w _ _ 153 (by simp), fun j hj => absurd hj (Nat.not_lt_zero _), bel1 w _, by simp, soft1 w _ 153⟩
  case round =>
    obtain ⟨m, hm, rfl, hrow, hops, hbel, hsz, hsoft⟩ := hrel
    by_cases hlt : m < n
    · have hB := HB.out.later hbel
      rcases hB with h0 | ⟨b, off, rfl, hq, hB⟩
      · omega
      obtain ⟨c0, c1, c2⟩ := hB m hlt
      have HROW : Hid (Row wr w.heap.size 153 (n * 3)) := hrow
      have HOPS : Hid (∀ j, j < m → EvC wr w.heap.size (j * 3) (B j)) := hops
      have HBE : Hid (Below w.heap.size w wr) := hbel
      have HSO : Hid (Soft w wr) := hsoft
      clear hB hrow hops hbel hsoft hmk
      go_wp2_with fail
      refine (toEvent_any (B m) _).mono ?_
      rintro e W ⟨rfl, hb, hso⟩
      have hrw : Row W w.heap.size 153 (n * 3) := HROW.out.of_block (hb.block _ hsz)
      obtain ⟨u0, r0⟩ := hrw.cell (i := m * 3) (by omega)
      obtain ⟨u1, r1⟩ := hrw.cell (i := m * 3 + 1) (by omega)
      obtain ⟨u2, r2⟩ := hrw.cell (i := m * 3 + 2) (by omega)
      have f0 := hrw.frozen (m * 3)
      have f1 := hrw.frozen (m * 3 + 1)
      have f2 := hrw.frozen (m * 3 + 2)
      have HRW : Hid (Row W w.heap.size 153 (n * 3)) := hrw
      have HB2 : Hid (Below wr.heap.size wr W) := hb
      have HSO2 : Hid (Soft wr W) := hso
      clear hrw hb hso
      go_wp2
      go_roundw
      case rel =>
        show evtI w n B _ (put3 W w.heap.size (m * 3) _ _ _)
        have hsz2 := HB2.out.size
        obtain ⟨p0, p1, p2⟩ := put3_cells (v0 := .int .i64 (B m).kind) (v1 := .int .i64 (B m).arg) (v2 := .int .i64 (B m).pos) HRW.out (o := m * 3) (by omega)
        refine ⟨m + 1, by omega, by go_num, put3_row HRW.out, all_snoc (fun j hj => ?_) ⟨p0, p1, p2⟩, put3_bel (bel_tr HBE.out HB2.out) _ _ _ _ _ (Nat.le_refl _), by rw [put3_size]; omega, put3_soft (HSO.out.trans HSO2.out HB2.out) _ _ _ _ _⟩
        obtain ⟨q0, q1, q2⟩ := HOPS.out j hj
        exact ⟨(put3_other (by omega)).trans (cell_on q0 HB2.out), (put3_other (by omega)).trans (cell_on q1 HB2.out), (put3_other (by omega)).trans (cell_on q2 HB2.out)⟩
      case measure => simp [intOf]; omega
    · obtain rfl : m = n := by omega
      go_wp2
      go_ret
      exact ⟨⟨_, _, rfl, .inr ⟨w.heap.size, rfl, ⟨Nat.le_refl _, hsz⟩, fun j _ => hrow.frozen j, hops⟩⟩, hbel, hsoft⟩

/-! ### Nodes -/
structure NdD where
  kind : Int
  arg : Int
  frm : Int
  to : Int
  par : Int
def NdC (w : World) (b o : Nat) (d : NdD) : Prop := w.cell? ⟨b, o, none⟩ = some (.int .i64 d.kind) ∧ w.cell? ⟨b, o + 1, none⟩ = some (.int .i64 d.arg) ∧ w.cell? ⟨b, o + 2, none⟩ = some (.int .i64 d.frm) ∧ w.cell? ⟨b, o + 3, none⟩ = some (.int .i64 d.to) ∧ w.cell? ⟨b, o + 4, none⟩ = some (.int .i64 d.par)
def NdA (Q : Nat → Prop) (w : World) (a : Option Addr) (n : Nat) (E : Nat → NdD) : Prop :=
  n = 0 ∨ ∃ b, a = some ⟨b, 0, none⟩ ∧ Q b ∧ (∀ j, j < n * 5 → w.frozen? ⟨b, j, none⟩ = false) ∧ ∀ i, i < n → NdC w b (i * 5) (E i)
theorem NdC.of {w w' : World} {b o : Nat} {d : NdD} (h : NdC w b o d) (k : w'.heap[b]? = w.heap[b]?) : NdC w' b o d := by
  have hc : ∀ o, w'.cell? ⟨b, o, none⟩ = w.cell? ⟨b, o, none⟩ := fun o => World.cell?_of_block (a := ⟨b, o, none⟩) k
  obtain ⟨h0, h1, h2, h3, h4⟩ := h
  exact ⟨(hc _).trans h0, (hc _).trans h1, (hc _).trans h2, (hc _).trans h3, (hc _).trans h4⟩
theorem NdA.on {Q : Nat → Prop} {w w' : World} {a : Option Addr} {n : Nat} {R : Nat → NdD} (h : NdA Q w a n R) (k : Stay Q w w') : NdA Q w' a n R := by
  rcases h with h | ⟨b, e, hq, hf, h⟩
  · exact .inl h
  · exact .inr ⟨b, e, hq, fun j hj => (World.frozen?_of_block (a := ⟨b, j, none⟩) (k b hq)).trans (hf j hj), fun i hi => (h i hi).of (k b hq)⟩
theorem NdA.later {Q : Nat → Prop} {w w' : World} {a : Option Addr} {n : Nat} {R : Nat → NdD} (h : NdA Q w a n R) (k : Below w.heap.size w w') : NdA Q w' a n R := by
  rcases h with h | ⟨b, e, hq, hf, h⟩
  · exact .inl h
  · by_cases h0 : n = 0
    · exact .inl h0
    · have lb := lt_of_cell (h 0 (by omega)).1
      exact .inr ⟨b, e, hq, fun j hj => (k.frozen (p := ⟨b, j, none⟩) lb).trans (hf j hj), fun i hi => (h i hi).of (k.block b lb)⟩
theorem NdA.wide {Q Q' : Nat → Prop} {w : World} {a : Option Addr} {n : Nat} {R : Nat → NdD} (h : NdA Q w a n R) (k : ∀ b, Q b → Q' b) : NdA Q' w a n R := by
  rcases h with h | ⟨b, e, hq, h⟩
  · exact .inl h
  · exact .inr ⟨b, e, k b hq, h⟩

set_option maxHeartbeats 1000000 in
theorem eqNode_same (d : NdD) (w : World) :
    Calls Try.prog 116 #[.agg #[.int .i64 d.kind, .int .i64 d.arg, .int .i64 d.frm, .int .i64 d.to, .int .i64 d.par], .agg #[.int .i64 d.kind, .int .i64 d.arg, .int .i64 d.frm, .int .i64 d.to, .int .i64 d.par]] w (SaysB True w) := by
  have t1 := ine d.kind
  have t2 := ine d.arg
  have t3 := ine d.frm
  have t4 := ine d.to
  have t5 := ine d.par
  go_enter Try.func116, Try.ntmps116
  go_wp2
  go_ret
  exact ⟨⟨true, rfl, iffT trivial⟩, bel2 w _ _⟩

set_option maxHeartbeats 2000000 in
theorem eqNodeS_same (Q Q' : Nat → Prop) (a a' : Option Addr) (n c c' : Nat) (R : Nat → NdD) (w : World) (h1 : NdA Q w a n R) (h2 : NdA Q' w a' n R) (hn : n ≤ 1048576) :
    Calls Try.prog 52 #[.slice a n c, .slice a' n c'] w (SaysB True w) := by
  have ht := nne n
  have H1 : Hid (NdA Q w a n R) := h1
  have H2 : Hid (NdA Q' w a' n R) := h2
  clear h1 h2
  go_enter Try.func52, Try.ntmps52
  go_wp2
  go_loopw [5] (fun i wr => ∃ k : Nat, k ≤ n ∧ i = .int .i64 k ∧ Below w.heap.size w wr) (fun i _ => n - (intOf i).toNat)
  case atStart => exact ⟨0, Nat.zero_le _, rfl, Below.refl _ _⟩
  case round =>
    obtain ⟨k, hk, rfl, hbel⟩ := hrel
    by_cases hlt : k < n
    · have h1 := H1.out.later hbel
      rcases h1 with h0 | ⟨b, rfl, hq, hf, h1⟩
      · omega
      have h2 := H2.out.later hbel
      rcases h2 with h0 | ⟨b', rfl, hq', hf', h2⟩
      · omega
      obtain ⟨c0, c1, c2, c3, c4⟩ := h1 k hlt
      obtain ⟨e0, e1, e2, e3, e4⟩ := h2 k hlt
      have hlt' : (k : Int) < (n : Int) := by omega
      have HBE : Hid (Below w.heap.size w wr) := hbel
      obtain ⟨ι, hne, F, hF, hF'⟩ := family wr
      have f0 : ∀ n, (F n).cell? ⟨b, k * 5, none⟩ = some (.int .i64 (R k).kind) := fun n => cell_on c0 (hF n)
      have g0 : ∀ n, (F n).cell? ⟨b', k * 5, none⟩ = some (.int .i64 (R k).kind) := fun n => cell_on e0 (hF n)
      have f1 : ∀ n, (F n).cell? ⟨b, k * 5 + 1, none⟩ = some (.int .i64 (R k).arg) := fun n => cell_on c1 (hF n)
      have g1 : ∀ n, (F n).cell? ⟨b', k * 5 + 1, none⟩ = some (.int .i64 (R k).arg) := fun n => cell_on e1 (hF n)
      have f2 : ∀ n, (F n).cell? ⟨b, k * 5 + 2, none⟩ = some (.int .i64 (R k).frm) := fun n => cell_on c2 (hF n)
      have g2 : ∀ n, (F n).cell? ⟨b', k * 5 + 2, none⟩ = some (.int .i64 (R k).frm) := fun n => cell_on e2 (hF n)
      have f3 : ∀ n, (F n).cell? ⟨b, k * 5 + 3, none⟩ = some (.int .i64 (R k).to) := fun n => cell_on c3 (hF n)
      have g3 : ∀ n, (F n).cell? ⟨b', k * 5 + 3, none⟩ = some (.int .i64 (R k).to) := fun n => cell_on e3 (hF n)
      have f4 : ∀ n, (F n).cell? ⟨b, k * 5 + 4, none⟩ = some (.int .i64 (R k).par) := fun n => cell_on c4 (hF n)
      have g4 : ∀ n, (F n).cell? ⟨b', k * 5 + 4, none⟩ = some (.int .i64 (R k).par) := fun n => cell_on e4 (hF n)
      have HC : Hid (∃ n, wr.drew = F n) := hF' _ (Below.refl _ wr).drew
      have HF : Hid (∀ n, Below wr.heap.size wr (F n)) := hF
      have HF' : Hid (∀ W, Below wr.heap.size wr W → ∃ n, W = F n) := hF'
      clear hF hF' h1 h2 hbel hf hf'
      go_wp2_with fail
      refine region_family F (by kernel_rfl) (by kernel_rfl) HC.out ?_
      repeat (go_big_quiet_step (first | (go_at_call 116; exact says_in (HF.out _) HF'.out (iffT trivial) (eqNode_same (R k) _))))
      refine wpQuiet_nil ?_
      rintro _ ⟨nq, rfl⟩
      go_wp2
      go_roundw
      case rel => exact ⟨k + 1, by omega, by go_num, bel_tr HBE.out (HF.out nq)⟩
      case measure => simp [intOf]; omega
    · obtain rfl : k = n := by omega
      go_wp2
      go_ret
      exact ⟨⟨true, rfl, iffT trivial⟩, hbel⟩

/-! ### Marks -/
def mkN (k : Int) (i : Nat) : NdD := ⟨k + 5 * i, k + 5 * i + 1, k + 5 * i + 1 + 1, k + 5 * i + 1 + 1 + 1, k + 5 * i + 1 + 1 + 1 + 1⟩
def set5 (w : World) (b o : Nat) (x y z u v : Int) : World := ((set3 w b o x y z).setCell ⟨b, o + 3, none⟩ (.int .i64 u)).setCell ⟨b, o + 4, none⟩ (.int .i64 v)
theorem set5_far (w : World) (b o : Nat) (x y z u v : Int) (j : Nat) (h : j < o ∨ o + 4 < j) : (set5 w b o x y z u v).cell? ⟨b, j, none⟩ = w.cell? ⟨b, j, none⟩ := by
  unfold set5
  rw [cell_set_other (by omega), cell_set_other (by omega), set3_far _ _ _ _ _ _ _ (by omega) (by omega) (by omega)]
theorem set5_wrote {Q : Nat → Prop} {w : World} {b o : Nat} {d : NdD} (x y z u v : Int) (hq : Q b) (h : NdC w b o d) : Wrote Q w (set5 w b o x y z u v) := by
  obtain ⟨h0, h1, h2, h3, h4⟩ := h
  unfold set5
  have k1 : (set3 w b o x y z).cell? ⟨b, o + 3, none⟩ = some (.int .i64 d.to) := by rw [set3_far _ _ _ _ _ _ _ (by omega) (by omega) (by omega)]; exact h3
  have k2 : ((set3 w b o x y z).setCell ⟨b, o + 3, none⟩ (.int .i64 u)).cell? ⟨b, o + 4, none⟩ = some (.int .i64 d.par) := by rw [cell_set_other (by omega), set3_far _ _ _ _ _ _ _ (by omega) (by omega) (by omega)]; exact h4
  exact ((set3_wrote x y z hq h0 h1 h2).trans (Wrote.setInt hq k1 u)).trans (Wrote.setInt hq k2 v)
theorem set5_cells {w : World} {b o : Nat} {d : NdD} (x y z u v : Int) (h : NdC w b o d) : NdC (set5 w b o x y z u v) b o ⟨x, y, z, u, v⟩ := by
  obtain ⟨h0, h1, h2, h3, h4⟩ := h
  obtain ⟨e0, e1, e2⟩ := set3_cells x y z h0 h1 h2
  have k1 : (set3 w b o x y z).cell? ⟨b, o + 3, none⟩ = some (.int .i64 d.to) := by rw [set3_far _ _ _ _ _ _ _ (by omega) (by omega) (by omega)]; exact h3
  have k2 : ((set3 w b o x y z).setCell ⟨b, o + 3, none⟩ (.int .i64 u)).cell? ⟨b, o + 4, none⟩ = some (.int .i64 d.par) := by rw [cell_set_other (by omega), set3_far _ _ _ _ _ _ _ (by omega) (by omega) (by omega)]; exact h4
  unfold set5
  refine ⟨?_, ?_, ?_, ?_, World.cell?_setCell_same _ _ _ k2⟩
  · rw [cell_set_other (by omega), cell_set_other (by omega)]; exact e0
  · rw [cell_set_other (by omega), cell_set_other (by omega)]; exact e1
  · rw [cell_set_other (by omega), cell_set_other (by omega)]; exact e2
  · rw [cell_set_other (by omega)]; exact World.cell?_setCell_same _ _ _ k1
def ruN (E : Nat → NdD) (k : Int) (m i : Nat) : NdD := if i < m then mkN k i else E i
def mnI (Q : Nat → Prop) (w : World) (b n : Nat) (E : Nat → NdD) (k : Int) (kv i : Value) (wr : World) : Prop :=
  ∃ m : Nat, m ≤ n ∧ kv = .int .i64 (k + 5 * m) ∧ i = .int .i64 (m : Int) ∧ Wrote Q w wr ∧ ∀ i, i < n → NdC wr b (i * 5) (ruN E k m i)
theorem mn_step {Q : Nat → Prop} {w wr : World} {b n m : Nat} {E : Nat → NdD} {k : Int} (hlt : m < n) (hq : Q b) (hw : Wrote Q w wr) (h : ∀ i, i < n → NdC wr b (i * 5) (ruN E k m i)) :
    mnI Q w b n E k (.int .i64 (k + 5 * ((m + 1 : Nat) : Int))) (.int .i64 ((m + 1 : Nat) : Int)) (set5 wr b (m * 5) (k + 5 * m) (k + 5 * m + 1) (k + 5 * m + 1 + 1) (k + 5 * m + 1 + 1 + 1) (k + 5 * m + 1 + 1 + 1 + 1)) := by
  have hm := h m hlt
  have w3 := set5_wrote (Q := Q) (k + 5 * m) (k + 5 * m + 1) (k + 5 * m + 1 + 1) (k + 5 * m + 1 + 1 + 1) (k + 5 * m + 1 + 1 + 1 + 1) hq hm
  have d := set5_cells (k + 5 * m) (k + 5 * m + 1) (k + 5 * m + 1 + 1) (k + 5 * m + 1 + 1 + 1) (k + 5 * m + 1 + 1 + 1 + 1) hm
  refine ⟨m + 1, hlt, rfl, rfl, hw.trans w3, fun i hi => ?_⟩
  by_cases e : i = m
  · subst e
    have en : ruN E k (i + 1) i = mkN k i := by unfold ruN; rw [if_pos (by omega)]
    rw [en]
    exact d
  · have en : ruN E k (m + 1) i = ruN E k m i := by
      unfold ruN
      by_cases q : i < m
      · rw [if_pos q, if_pos (by omega)]
      · rw [if_neg q, if_neg (by omega)]
    rw [en]
    obtain ⟨e0, e1, e2, e3, e4⟩ := h i hi
    exact ⟨(set5_far _ _ _ _ _ _ _ _ _ (by omega)).trans e0, (set5_far _ _ _ _ _ _ _ _ _ (by omega)).trans e1, (set5_far _ _ _ _ _ _ _ _ _ (by omega)).trans e2, (set5_far _ _ _ _ _ _ _ _ _ (by omega)).trans e3, (set5_far _ _ _ _ _ _ _ _ _ (by omega)).trans e4⟩

set_option maxRecDepth 100000 in
set_option maxHeartbeats 4000000 in
theorem markNodeS_exact (Q : Nat → Prop) (a : Option Addr) (n c : Nat) (E : Nat → NdD) (k : Int) (w : World) (hA : NdA Q w a n E) (hn : n ≤ 1048576) (h0 : 0 ≤ k) (h1 : k ≤ 1048580) :
    Calls Try.prog 55 #[.slice a n c, .int .i64 k] w (MarkX (fun w' => NdA Q w' a n (mkN k)) Q (k + 5 * n) w) := by
  rcases hA with hz | ⟨b, rfl, hq, hfz, hB⟩
  · subst hz
    go_enter Try.func55, Try.ntmps55
    go_wp2
    go_loopw [1, 5] (fun kv i wr => kv = .int .i64 k ∧ i = .int .i64 0 ∧ wr = w) (fun _ _ _ => 0)
    case atStart => exact ⟨rfl, rfl, rfl⟩
    case round =>
      obtain ⟨rfl, rfl, hw⟩ := hrel
      subst hw
      go_wp2
      go_ret
      exact ⟨by simp, .inl rfl, Wrote.refl _ _⟩
  have HQ : Hid (Q b) := hq
  have HFZ : Hid (∀ j, j < n * 5 → w.frozen? ⟨b, j, none⟩ = false) := hfz
  have HB : Hid (∀ i, i < n → NdC w b (i * 5) (E i)) := hB
  clear hq hfz hB
  go_enter Try.func55, Try.ntmps55
  go_wp2
  go_loopw [1, 5] (fun kv i wr => mnI Q w b n E k kv i wr) (fun kv i _ => n - (intOf i).toNat)
  case atStart => exact ⟨0, Nat.zero_le _, by simp, rfl, Wrote.refl _ _, HB.out⟩
  case round =>
    obtain ⟨m, hm, rfl, rfl, hw, hru⟩ := hrel
    by_cases hlt : m < n
    · obtain ⟨c0, c1, c2, c3, c4⟩ := hru m hlt
      have hlt' : (m : Int) < (n : Int) := by omega
      have f0 : wr.frozen? ⟨b, m * 5, none⟩ = false := (hw.frozen _).trans (HFZ.out _ (by omega))
      have f1 : wr.frozen? ⟨b, m * 5 + 1, none⟩ = false := (hw.frozen _).trans (HFZ.out _ (by omega))
      have f2 : wr.frozen? ⟨b, m * 5 + 2, none⟩ = false := (hw.frozen _).trans (HFZ.out _ (by omega))
      have f3 : wr.frozen? ⟨b, m * 5 + 3, none⟩ = false := (hw.frozen _).trans (HFZ.out _ (by omega))
      have f4 : wr.frozen? ⟨b, m * 5 + 4, none⟩ = false := (hw.frozen _).trans (HFZ.out _ (by omega))
      have HE : Hid (mnI Q w b n E k (.int .i64 (k + 5 * ((m + 1 : Nat) : Int))) (.int .i64 ((m + 1 : Nat) : Int)) (set5 wr b (m * 5) (k + 5 * m) (k + 5 * m + 1) (k + 5 * m + 1 + 1) (k + 5 * m + 1 + 1 + 1) (k + 5 * m + 1 + 1 + 1 + 1))) := mn_step hlt HQ.out hw hru
      clear hw hru
      go_wp2
      go_roundw
      case rel =>
        have h := HE.out
        have ev : k + 5 * ((m + 1 : Nat) : Int) = k + 5 * (m : Int) + 1 + 1 + 1 + 1 + 1 := by omega
        have e2 : ((m + 1 : Nat) : Int) = (m : Int) + 1 := by omega
        rw [ev, e2] at h
        exact h
      case measure => simp [intOf]; omega
    · obtain rfl : m = n := by omega
      go_wp2
      go_ret
      refine ⟨rfl, .inr ⟨b, rfl, HQ.out, fun j hj => (hw.frozen _).trans (HFZ.out j hj), fun i hi => ?_⟩, hw⟩
      have := hru i hi
      have en : ruN E k m i = mkN k i := by unfold ruN; rw [if_pos hi]
      rw [en] at this
      exact this

set_option maxRecDepth 100000 in
set_option maxHeartbeats 4000000 in
theorem heldNodeS_any (Q : Nat → Prop) (a : Option Addr) (n c : Nat) (k : Int) (w : World) (hA : NdA Q w a n (mkN k)) (hn : n ≤ 1048576) (h0 : 0 ≤ k) (h1 : k ≤ 1048580) :
    Calls Try.prog 56 #[.slice a n c, .int .i64 k] w (HeldIs (k + 5 * n) w) := by
  have HA : Hid (NdA Q w a n (mkN k)) := hA
  clear hA
  go_enter Try.func56, Try.ntmps56
  go_wp2
  go_loopw [1, 5] (fun kv i wr => hoI w n (fun m => k + 5 * m) kv i wr) (fun kv i _ => n - (intOf i).toNat)
  case atStart => exact ⟨0, Nat.zero_le _, by simp, rfl, rfl⟩
  case round =>
    obtain ⟨m, hm, rfl, rfl, hw⟩ := hrel
    subst wr
    by_cases hlt : m < n
    · have hA' := HA.out
      rcases hA' with h0 | ⟨b, rfl, hq, hf, hA'⟩
      · omega
      obtain ⟨c0, c1, c2, c3, c4⟩ := hA' m hlt
      have hlt' : (m : Int) < (n : Int) := by omega
      have d0 : w.cell? ⟨b, m * 5, none⟩ = some (.int .i64 (k + 5 * m)) := c0
      have d1 : w.cell? ⟨b, m * 5 + 1, none⟩ = some (.int .i64 (k + 5 * m + 1)) := c1
      have d2 : w.cell? ⟨b, m * 5 + 2, none⟩ = some (.int .i64 (k + 5 * m + 1 + 1)) := c2
      have d3 : w.cell? ⟨b, m * 5 + 3, none⟩ = some (.int .i64 (k + 5 * m + 1 + 1 + 1)) := c3
      have d4 : w.cell? ⟨b, m * 5 + 4, none⟩ = some (.int .i64 (k + 5 * m + 1 + 1 + 1 + 1)) := c4
      have t0 := ine (k + 5 * (m : Int))
      have t1 := ine (k + 5 * (m : Int) + 1)
      have t2 := ine (k + 5 * (m : Int) + 1 + 1)
      have t3 := ine (k + 5 * (m : Int) + 1 + 1 + 1)
      have t4 := ine (k + 5 * (m : Int) + 1 + 1 + 1 + 1)
      clear hA' c0 c1 c2 c3 c4 hf
      go_wp2
      go_roundw
      case rel => exact ⟨m + 1, by omega, by congr 1; show _ = k + 5 * ((m + 1 : Nat) : Int); omega, by go_num, rfl⟩
      case measure => simp [intOf]; omega
    · obtain rfl : m = n := by omega
      go_wp2
      go_ret
      exact ⟨rfl, rfl⟩

end Go.Proofs.Ytcmcbemcfjbchab
