/-
  Walks: lists of instructions as arguments: how great they are, copies, marks; the same is told to be the same.
-/
import Derived.Test.YtcmcbemcfjbchabCPure
import Derived.Test.YtcmcbemcfjbchabCopy
import Derived.Test.YtcmcbemcfjbchabSame
import Derived.Test.YtcmcbemcfjbchabMarkS
import Derived.Test.YtcmcbemcfjbchabOpen
namespace Go.Proofs.Ytcmcbemcfjbchab
open Go.ChangeShapes Go.WideShapes Go.ChangeAt Go.RowKit Go.Deep
open M (OpD NodeD Gr InsD EX ins)
set_option linter.unusedVariables false
set_option linter.unusedSimpArgs false

/-! ### Rows of instructions -/
def InsC (Q : Nat → Prop) (w : World) (b o : Nat) (d : InsD) : Prop :=
  w.cell? ⟨b, o, none⟩ = some (.int .i64 d.kind) ∧ w.cell? ⟨b, o + 1, none⟩ = some (.int .i64 d.arg) ∧ w.cell? ⟨b, o + 2, none⟩ = some (.int .i64 d.to) ∧
    ∃ sa sc, w.cell? ⟨b, o + 3, none⟩ = some (.slice sa d.sl sc) ∧ Ints Q .i64 w sa d.sl d.set
def InsA (Q : Nat → Prop) (w : World) (a : Option Addr) (n : Nat) (R : Nat → InsD) : Prop :=
  n = 0 ∨ ∃ b off, a = some ⟨b, off, none⟩ ∧ Q b ∧ ∀ i, i < n → InsC Q w b (off + i * 4) (R i)
theorem InsA.on {Q : Nat → Prop} {w w' : World} {a : Option Addr} {n : Nat} {R : Nat → InsD} (h : InsA Q w a n R) (k : Stay Q w w') : InsA Q w' a n R := by
  rcases h with h | ⟨b, off, e, hq, h⟩
  · exact .inl h
  · have hc : ∀ o, w'.cell? ⟨b, o, none⟩ = w.cell? ⟨b, o, none⟩ := fun o => World.cell?_of_block (a := ⟨b, o, none⟩) (k b hq)
    refine .inr ⟨b, off, e, hq, fun i hi => ?_⟩
    obtain ⟨h0, h1, h2, sa, sc, h3, h4⟩ := h i hi
    exact ⟨(hc _).trans h0, (hc _).trans h1, (hc _).trans h2, sa, sc, (hc _).trans h3, h4.on k⟩
theorem InsA.later {Q : Nat → Prop} {w w' : World} {a : Option Addr} {n : Nat} {R : Nat → InsD} (h : InsA Q w a n R) (k : Below w.heap.size w w') : InsA Q w' a n R := by
  rcases h with h | ⟨b, off, e, hq, h⟩
  · exact .inl h
  · refine .inr ⟨b, off, e, hq, fun i hi => ?_⟩
    obtain ⟨h0, h1, h2, sa, sc, h3, h4⟩ := h i hi
    exact ⟨cell_on h0 k, cell_on h1 k, cell_on h2 k, sa, sc, cell_on h3 k, h4.later k⟩
theorem InsA.wide {Q Q' : Nat → Prop} {w : World} {a : Option Addr} {n : Nat} {R : Nat → InsD} (h : InsA Q w a n R) (k : ∀ b, Q b → Q' b) : InsA Q' w a n R := by
  rcases h with h | ⟨b, off, e, hq, h⟩
  · exact .inl h
  · refine .inr ⟨b, off, e, k b hq, fun i hi => ?_⟩
    obtain ⟨h0, h1, h2, sa, sc, h3, h4⟩ := h i hi
    exact ⟨h0, h1, h2, sa, sc, h3, h4.wide k⟩

/-! ### The same is told to be the same -/
set_option maxHeartbeats 1000000 in
theorem eqIns_same (Q Q' : Nat → Prop) (a a' : Option Addr) (c c' : Nat) (d : InsD) (w : World) (h1 : Ints Q .i64 w a d.sl d.set) (h2 : Ints Q' .i64 w a' d.sl d.set) (hn : d.sl ≤ 1048576) :
    Calls Try.prog 98 #[.agg #[.int .i64 d.kind, .int .i64 d.arg, .int .i64 d.to, .slice a d.sl c], .agg #[.int .i64 d.kind, .int .i64 d.arg, .int .i64 d.to, .slice a' d.sl c']] w (SaysB True w) := by
  have t1 := ine d.kind
  have t2 := ine d.arg
  have t3 := ine d.to
  have H1 : Hid (∀ o p, Ints Q .i64 ((w.alloc o).alloc p) a d.sl d.set) := fun o p => h1.later (bel2 w o p)
  have H2 : Hid (∀ o p, Ints Q' .i64 ((w.alloc o).alloc p) a' d.sl d.set) := fun o p => h2.later (bel2 w o p)
  clear h1 h2
  go_enter Try.func98, Try.ntmps98
  go_wp2_with (go_at_call 110; refine (eqIntS_same Q Q' a a' d.sl c c' d.set _ (H1.out _ _) (H2.out _ _) hn).mono ?_; rintro e W ⟨⟨r, rfl, hr⟩, hb⟩; obtain rfl : r = true := hr.2 trivial; have HB : Hid _ := hb; clear hr hb)
  go_ret
  exact ⟨⟨true, rfl, iffT trivial⟩, bel_tr (bel2 w _ _) HB.out⟩

set_option maxHeartbeats 2000000 in
theorem eqInsS_same (Q Q' : Nat → Prop) (a a' : Option Addr) (n c c' : Nat) (R : Nat → InsD) (w : World) (h1 : InsA Q w a n R) (h2 : InsA Q' w a' n R) (hn : n ≤ 1048576) (hs : ∀ i, i < n → (R i).sl ≤ 1048576) :
    Calls Try.prog 38 #[.slice a n c, .slice a' n c'] w (SaysB True w) := by
  have ht := nne n
  have H1 : Hid (InsA Q w a n R) := h1
  have H2 : Hid (InsA Q' w a' n R) := h2
  have HSL : Hid (∀ i, i < n → (R i).sl ≤ 1048576) := hs
  clear h1 h2 hs
  go_enter Try.func38, Try.ntmps38
  go_wp2
  go_loopw [5] (fun i wr => ∃ k : Nat, k ≤ n ∧ i = .int .i64 k ∧ Below w.heap.size w wr) (fun i _ => n - (intOf i).toNat)
  case atStart => exact ⟨0, Nat.zero_le _, rfl, Below.refl _ _⟩
  case round =>
    obtain ⟨k, hk, rfl, hbel⟩ := hrel
    by_cases hlt : k < n
    · have h1 := H1.out.later hbel
      rcases h1 with h0 | ⟨b, off, rfl, hq, h1⟩
      · omega
      have h2 := H2.out.later hbel
      rcases h2 with h0 | ⟨b', off', rfl, hq', h2⟩
      · omega
      obtain ⟨c0, c1, c2, sa, sc, c3, hs1⟩ := h1 k hlt
      obtain ⟨e0, e1, e2, sa', sc', e3, hs2⟩ := h2 k hlt
      have HS1 : Hid (Ints Q .i64 wr sa (R k).sl (R k).set) := hs1
      have HS2 : Hid (Ints Q' .i64 wr sa' (R k).sl (R k).set) := hs2
      have hlt' : (k : Int) < (n : Int) := by omega
      have HBE : Hid (Below w.heap.size w wr) := hbel
      obtain ⟨ι, hne, F, hF, hF'⟩ := family wr
      have f0 : ∀ n, (F n).cell? ⟨b, off + k * 4, none⟩ = some (.int .i64 (R k).kind) := fun n => cell_on c0 (hF n)
      have g0 : ∀ n, (F n).cell? ⟨b', off' + k * 4, none⟩ = some (.int .i64 (R k).kind) := fun n => cell_on e0 (hF n)
      have f1 : ∀ n, (F n).cell? ⟨b, off + k * 4 + 1, none⟩ = some (.int .i64 (R k).arg) := fun n => cell_on c1 (hF n)
      have g1 : ∀ n, (F n).cell? ⟨b', off' + k * 4 + 1, none⟩ = some (.int .i64 (R k).arg) := fun n => cell_on e1 (hF n)
      have f2 : ∀ n, (F n).cell? ⟨b, off + k * 4 + 2, none⟩ = some (.int .i64 (R k).to) := fun n => cell_on c2 (hF n)
      have g2 : ∀ n, (F n).cell? ⟨b', off' + k * 4 + 2, none⟩ = some (.int .i64 (R k).to) := fun n => cell_on e2 (hF n)
      have f3 : ∀ n, (F n).cell? ⟨b, off + k * 4 + 3, none⟩ = some (.slice sa (R k).sl sc) := fun n => cell_on c3 (hF n)
      have g3 : ∀ n, (F n).cell? ⟨b', off' + k * 4 + 3, none⟩ = some (.slice sa' (R k).sl sc') := fun n => cell_on e3 (hF n)
      have HC : Hid (∃ n, wr.drew = F n) := hF' _ (Below.refl _ wr).drew
      have HF : Hid (∀ n, Below wr.heap.size wr (F n)) := hF
      have HF' : Hid (∀ W, Below wr.heap.size wr W → ∃ n, W = F n) := hF'
      clear hF hF' h1 h2 hbel hs1 hs2
      go_wp2_with fail
      refine region_family F (by kernel_rfl) (by kernel_rfl) HC.out ?_
      repeat (go_big_quiet_step (first | (go_at_call 98; exact says_in (HF.out _) HF'.out (iffT trivial) (eqIns_same Q Q' sa sa' sc sc' (R k) _ (HS1.out.later (HF.out _)) (HS2.out.later (HF.out _)) (HSL.out k hlt)))))
      refine wpQuiet_nil ?_
      rintro _ ⟨nq, rfl⟩
      go_wp2
      go_roundw
      case rel => exact ⟨k + 1, by omega, by go_num, bel_tr HBE.out (HF.out nq)⟩
      case measure => simp [intOf]; omega
    · obtain rfl : k = n := by omega
      go_wp2
      go_ret
      exact ⟨⟨true, rfl, iffT trivial⟩, hbel⟩

/-! ### How great -/
set_option maxHeartbeats 1000000 in
theorem szIns_any (a : Option Addr) (n c : Nat) (kd arg to left : Int) (w : World) (h0 : 0 ≤ left) (h1 : left ≤ 1048576) (hn : n ≤ 9223372036854775807) :
    Calls Try.prog 101 #[.agg #[.int .i64 kd, .int .i64 arg, .int .i64 to, .slice a n c], .int .i64 left] w (SzIs left (n ≤ 1048576) w) := by
  go_enter Try.func101, Try.ntmps101
  go_wp2_with (go_at_call 161; refine (szIntS_any a n c left _ h0 h1 hn).mono ?_; rintro e W ⟨⟨r, rfl, hr, hp⟩, hb⟩; have HP : Hid _ := hp; have HB : Hid _ := hb; clear hp hb)
  · go_ret
    exact ⟨⟨-1, rfl, by omega, fun h => by omega⟩, bel_tr (bel1 w _) HB.out⟩
  · go_ret
    exact ⟨⟨_, rfl, hr, HP.out⟩, bel_tr (bel1 w _) HB.out⟩

def SmallI (n : Nat) (R : Nat → InsD) : Prop := n ≤ 1048576 ∧ ∀ i, i < n → (R i).sl ≤ 1048576

set_option maxHeartbeats 2000000 in
theorem szInsS_any (Q : Nat → Prop) (a : Option Addr) (n c : Nat) (B : Nat → InsD) (left : Int) (w : World) (hB : InsA Q w a n B) (h0 : 0 ≤ left) (h1 : left ≤ 1048576) (hn : n ≤ 9223372036854775807) (hs : ∀ i, i < n → (B i).sl ≤ 9223372036854775807) :
    Calls Try.prog 41 #[.slice a n c, .int .i64 left] w (SzIs left (SmallI n B) w) := by
  by_cases hl : left - (n : Int) < 0
  · go_enter Try.func41, Try.ntmps41
    go_wp2
    go_ret
    exact ⟨⟨-1, rfl, by omega, fun h => by omega⟩, Below.refl _ _⟩
  have HB : Hid (InsA Q w a n B) := hB
  have HS : Hid (∀ i, i < n → (B i).sl ≤ 9223372036854775807) := hs
  clear hB hs
  have hl' : ¬ left - (n : Int) < 0 := hl
  go_enter Try.func41, Try.ntmps41
  go_wp2
  go_loopw [1, 5] (fun l i wr => szI w n left (fun j => (B j).sl ≤ 1048576) l i wr) (fun l i _ => n - (intOf i).toNat)
  case atStart => exact ⟨0, left - n, Nat.zero_le _, rfl, by omega, by omega, rfl, Below.refl _ _, fun j hj => absurd hj (Nat.not_lt_zero _)⟩
  case round =>
    obtain ⟨k, r, hk, rfl, r0, r1, rfl, hbw, hall⟩ := hrel
    have HA : Hid (∀ j, j < k → (B j).sl ≤ 1048576) := hall
    clear hall
    by_cases hlt : k < n
    · have hB := HB.out.later hbw
      rcases hB with h0 | ⟨b, off, rfl, hq, hB⟩
      · omega
      obtain ⟨c0, c1, c2, sa, sc, c3, hs⟩ := hB k hlt
      have hsl := HS.out k hlt
      have HBW : Hid (Below w.heap.size w wr) := hbw
      clear hB hbw hs
      go_wp2_with (go_at_call 101; refine (szIns_any sa (B k).sl sc (B k).kind (B k).arg (B k).to r _ r0 (by omega) hsl).mono ?_; rintro e W ⟨⟨q, rfl, hq', hp⟩, hb⟩; have HP : Hid _ := hp; have HBB : Hid _ := hb; clear hp hb)
      · go_ret
        exact ⟨⟨-1, rfl, by omega, fun h => by omega⟩, bel_tr HBW.out HBB.out⟩
      · go_roundw
        case rel => exact ⟨k + 1, q, by omega, rfl, by omega, by omega, by go_num, bel_tr HBW.out HBB.out, all_snoc HA.out (HP.out (by omega))⟩
        case measure => simp [intOf]; omega
    · obtain rfl : k = n := by omega
      go_wp2
      go_ret
      exact ⟨⟨r, rfl, r1, fun _ => ⟨by omega, HA.out⟩⟩, hbw⟩

/-! ### Copies -/
/-- An instruction, copied. -/
structure CpIn (d : InsD) (w : World) (e : Ending) (w' : World) : Prop where
  val : ∃ a c, e = .returned (.agg #[.int .i64 d.kind, .int .i64 d.arg, .int .i64 d.to, .slice a d.sl c]) ∧ Ints (New w w') .i64 w' a d.sl d.set
  bel : Below w.heap.size w w'
  soft : Soft w w'

set_option maxRecDepth 100000 in
set_option maxHeartbeats 4000000 in
theorem toIns_any (Q : Nat → Prop) (a : Option Addr) (c : Nat) (d : InsD) (w : World) (hS : Ints Q .i64 w a d.sl d.set) (hn : d.sl ≤ 1048576) :
    Calls Try.prog 104 #[.agg #[.int .i64 d.kind, .int .i64 d.arg, .int .i64 d.to, .slice a d.sl c]] w (CpIn d w) := by
  have HS : Hid (Ints Q .i64 w a d.sl d.set) := hS
  clear hS
  go_enter Try.func104, Try.ntmps104
  go_wp2_with fail
  refine (toIntS_any Q a d.sl c d.set _ (HS.out.later (bel3 w _ _ _)) hn).mono ?_
  rintro e W ⟨⟨a', c', rfl, hI⟩, hb, hso⟩
  have y0 := cell_on (a := ⟨w.heap.size + 1, 0, none⟩) (v := .int .i64 0) (cellOn _ (cN (w.heap.size + 1) (by simp) rfl)) hb
  have y1 := cell_on (a := ⟨w.heap.size + 1, 1, none⟩) (v := .int .i64 0) (cellOn _ (cN (w.heap.size + 1) (by simp) rfl)) hb
  have y2 := cell_on (a := ⟨w.heap.size + 1, 2, none⟩) (v := .int .i64 0) (cellOn _ (cN (w.heap.size + 1) (by simp) rfl)) hb
  have y3 := cell_on (a := ⟨w.heap.size + 1, 3, none⟩) (v := .slice none 0 0) (cellOn _ (cN (w.heap.size + 1) (by simp) rfl)) hb
  have z0 := cell_on (a := ⟨w.heap.size + 1 + 1, 0, none⟩) (v := .int .i64 d.kind) (cN (w.heap.size + 1 + 1) (by simp) rfl) hb
  have z1 := cell_on (a := ⟨w.heap.size + 1 + 1, 1, none⟩) (v := .int .i64 d.arg) (cN (w.heap.size + 1 + 1) (by simp) rfl) hb
  have z2 := cell_on (a := ⟨w.heap.size + 1 + 1, 2, none⟩) (v := .int .i64 d.to) (cN (w.heap.size + 1 + 1) (by simp) rfl) hb
  have z3 := cell_on (a := ⟨w.heap.size + 1 + 1, 3, none⟩) (v := .slice none 0 0) (cN (w.heap.size + 1 + 1) (by simp) rfl) hb
  have fz : ∀ b o, w.heap.size ≤ b → b < w.heap.size + 3 → W.frozen? ⟨b, o, none⟩ = false := fun b o h1 h2 => by
    rw [hb.frozen (p := ⟨b, o, none⟩) (by simp; omega)]
    exact (((soft1 w _ 134).trans (soft1 _ _ 129) (bel1 _ _)).trans (soft1 _ _ 129) (bel1 _ _)) b o h1 (by simp; omega)
  have fy0 := fz (w.heap.size + 1) 0 (by omega) (by omega)
  have fy1 := fz (w.heap.size + 1) 1 (by omega) (by omega)
  have fy2 := fz (w.heap.size + 1) 2 (by omega) (by omega)
  have fy3 := fz (w.heap.size + 1) 3 (by omega) (by omega)
  have fz3 := fz (w.heap.size + 1 + 1) 3 (by omega) (by omega)
  have HB : Hid (Below w.heap.size w W) := bel_tr (bel3 w _ _ _) hb
  have HSO : Hid (Soft w W) := (((soft1 w _ 134).trans (soft1 _ _ 129) (bel1 _ _)).trans (soft1 _ _ 129) (bel1 _ _)).trans hso hb
  have HI : Hid (Ints (fun b => w.heap.size + 3 ≤ b ∧ b < W.heap.size) .i64 W a' d.sl d.set) := hI.wide (fun b hb => ⟨by have := hb.1; simp at this; omega, hb.2⟩)
  clear hb hso hI fz
  go_wp2
  refine bodyPost_ret (v := .agg #[.int .i64 d.kind, .int .i64 d.arg, .int .i64 d.to, .slice a' d.sl c']) ?_ rfl ?_
  · simp [results, Try.f104, go_sem, *]
  · refine ⟨⟨a', c', rfl, ?_⟩, ?_, ?_⟩
    · refine Ints.wide (Q := fun b => w.heap.size + 3 ≤ b ∧ b < W.heap.size) (HI.out.on ?_) (fun b hb => ⟨by omega, by simp only [size_set]; exact hb.2⟩)
      exact ((((stay_set _ _ _ (fun h => by have := h.1; simp at this <;> omega)).trans (stay_set _ _ _ (fun h => by have := h.1; simp at this <;> omega))).trans (stay_set _ _ _ (fun h => by have := h.1; simp at this <;> omega))).trans (stay_set _ _ _ (fun h => by have := h.1; simp at this <;> omega))).trans (stay_set _ _ _ (fun h => by have := h.1; simp at this <;> omega))
    · exact bel_set (bel_set (bel_set (bel_set (bel_set HB.out _ _ _ (by omega)) _ _ _ (by omega)) _ _ _ (by omega)) _ _ _ (by omega)) _ _ _ (by omega)
    · exact ((((HSO.out.set _ _).set _ _).set _ _).set _ _).set _ _

theorem info129 : (Try.prog.info? 129).map (fun i => (i.zero, i.size, i.bytes)) = some (some (.agg #[.int .i64 0, .int .i64 0, .int .i64 0, .slice none 0 0]), 4, 48) := by kernel_rfl
theorem make129 (n : Nat) (hn : n ≤ 1048576) (w : World) : (Instr.makeSlice 50 (.int .i64 (n : Int)) (.int .i64 (n : Int))).run Try.prog w = .ok (.slice (some ⟨w.heap.size, 0, none⟩) n n) (w.alloc (.cells (madeCells #[.int .i64 0, .int .i64 0, .int .i64 0, .slice none 0 0] (n * 4)) 129)) := by
  obtain ⟨i, hi, hzz⟩ := Option.map_eq_some_iff.1 info129
  simp only [Prod.mk.injEq] at hzz
  obtain ⟨hz, hs, hb⟩ := hzz
  have hr := run_make (P := Try.prog) w 50 129 i _ Try.underlying50 hi hz .i64 .i64 n n (by omega) (Int.le_refl _) (by rw [hb]; omega) (by omega)
  simp only [Int.toNat_natCast, hs] at hr
  exact hr

/-- Four stores in a row. -/
def put4 (w : World) (b o : Nat) (v0 v1 v2 v3 : Value) : World := (put3 w b o v0 v1 v2).setCell ⟨b, o + 3, none⟩ v3
theorem put4_cells {w : World} {b o n : Nat} {t : TypeId} {v0 v1 v2 v3 : Value} (h : Row w b t n) (hn : o + 3 < n) :
    (put4 w b o v0 v1 v2 v3).cell? ⟨b, o, none⟩ = some v0 ∧ (put4 w b o v0 v1 v2 v3).cell? ⟨b, o + 1, none⟩ = some v1 ∧ (put4 w b o v0 v1 v2 v3).cell? ⟨b, o + 2, none⟩ = some v2 ∧ (put4 w b o v0 v1 v2 v3).cell? ⟨b, o + 3, none⟩ = some v3 := by
  obtain ⟨p0, p1, p2⟩ := put3_cells (v0 := v0) (v1 := v1) (v2 := v2) h (o := o) (by omega)
  obtain ⟨u3, h3⟩ := (put3_row (v0 := v0) (v1 := v1) (v2 := v2) (o := o) h).cell (i := o + 3) (by omega)
  unfold put4
  refine ⟨?_, ?_, ?_, cell_set_same h3⟩
  · rw [cell_set_other (by omega)]; exact p0
  · rw [cell_set_other (by omega)]; exact p1
  · rw [cell_set_other (by omega)]; exact p2
theorem put4_other {w : World} {b o j : Nat} {v0 v1 v2 v3 : Value} (h : j < o ∨ o + 3 < j) : (put4 w b o v0 v1 v2 v3).cell? ⟨b, j, none⟩ = w.cell? ⟨b, j, none⟩ := by
  unfold put4
  rw [cell_set_other (by omega), put3_other (by omega)]
theorem put4_stay {Q : Nat → Prop} {w : World} {b o : Nat} {v0 v1 v2 v3 : Value} (h : ¬ Q b) : Stay Q w (put4 w b o v0 v1 v2 v3) := (put3_stay h).trans (stay_set _ ⟨b, o + 3, none⟩ _ h)
theorem put4_row {w : World} {b o n : Nat} {t : TypeId} {v0 v1 v2 v3 : Value} (h : Row w b t n) : Row (put4 w b o v0 v1 v2 v3) b t n := (put3_row h).set _ _
theorem put4_size (w : World) (b o : Nat) (v0 v1 v2 v3 : Value) : (put4 w b o v0 v1 v2 v3).heap.size = w.heap.size := by unfold put4; rw [size_set, put3_size]
theorem put4_soft {w W : World} (h : Soft w W) (b o : Nat) (v0 v1 v2 v3 : Value) : Soft w (put4 W b o v0 v1 v2 v3) := (put3_soft h _ _ _ _ _).set _ _
theorem put4_bel {w W : World} (h : Below w.heap.size w W) (b o : Nat) (v0 v1 v2 v3 : Value) (hb : w.heap.size ≤ b) : Below w.heap.size w (put4 W b o v0 v1 v2 v3) := bel_set (put3_bel h _ _ _ _ _ hb) _ _ _ hb
theorem InsC.put {Q : Nat → Prop} {w : World} {b o o' : Nat} {d : InsD} {v0 v1 v2 v3 : Value} (h : InsC Q w b o d) (hq : ¬ Q b) (ho : o + 3 < o' ∨ o' + 3 < o) : InsC Q (put4 w b o' v0 v1 v2 v3) b o d := by
  obtain ⟨h0, h1, h2, a, c, h3, h4⟩ := h
  exact ⟨(put4_other (by omega)).trans h0, (put4_other (by omega)).trans h1, (put4_other (by omega)).trans h2, a, c, (put4_other (by omega)).trans h3, h4.on (put4_stay hq)⟩
theorem InsC.later {Q : Nat → Prop} {w w' : World} {b o : Nat} {d : InsD} (h : InsC Q w b o d) (k : Below w.heap.size w w') : InsC Q w' b o d := by
  obtain ⟨h0, h1, h2, a, c, h3, h4⟩ := h
  exact ⟨cell_on h0 k, cell_on h1 k, cell_on h2 k, a, c, cell_on h3 k, h4.later k⟩
theorem InsC.wide {Q Q' : Nat → Prop} {w : World} {b o : Nat} {d : InsD} (h : InsC Q w b o d) (k : ∀ b, Q b → Q' b) : InsC Q' w b o d := by
  obtain ⟨h0, h1, h2, a, c, h3, h4⟩ := h
  exact ⟨h0, h1, h2, a, c, h3, h4.wide k⟩

def insI (w : World) (n : Nat) (B : Nat → InsD) (i : Value) (wr : World) : Prop :=
  ∃ m : Nat, m ≤ n ∧ i = .int .i64 (m : Int) ∧ Row wr w.heap.size 129 (n * 4) ∧ (∀ j, j < m → InsC (fun b => w.heap.size < b ∧ b < wr.heap.size) wr w.heap.size (0 + j * 4) (B j)) ∧ Below w.heap.size w wr ∧ w.heap.size < wr.heap.size ∧ Soft w wr

set_option maxHeartbeats 2000000 in
theorem toInsS_any (Q : Nat → Prop) (a : Option Addr) (n c : Nat) (B : Nat → InsD) (w : World) (hB : InsA Q w a n B) (hs : SmallI n B) :
    Calls Try.prog 43 #[.slice a n c] w (CpS (fun w' a => InsA (New w w') w' a n B) n w) := by
  obtain ⟨hn, hsl⟩ := hs
  have hmk := make129 n hn
  have HB : Hid (InsA Q w a n B) := hB
  have HSL : Hid (∀ i, i < n → (B i).sl ≤ 1048576) := hsl
  clear hB hsl
  go_enter Try.func43, Try.ntmps43
  go_wp2
  go_loopw [4] (fun i wr => insI w n B i wr) (fun i _ => n - (intOf i).toNat)
  case atStart => exact ⟨0, Nat.zero_le _, rfl, row_made w _ _ 129 (by simp), fun j hj => absurd hj (Nat.not_lt_zero _), bel1 w _, by simp, soft1 w _ 129⟩
  case round =>
    obtain ⟨m, hm, rfl, hrow, hops, hbel, hsz, hsoft⟩ := hrel
    by_cases hlt : m < n
    · have hB := HB.out.later hbel
      rcases hB with h0 | ⟨b, off, rfl, hq, hB⟩
      · omega
      obtain ⟨c0, c1, c2, sa, sc, c3, hs⟩ := hB m hlt
      have HS : Hid (Ints Q .i64 wr sa (B m).sl (B m).set) := hs
      have hsl := HSL.out m hlt
      have HROW : Hid (Row wr w.heap.size 129 (n * 4)) := hrow
      have HOPS : Hid (∀ j, j < m → InsC (fun b => w.heap.size < b ∧ b < wr.heap.size) wr w.heap.size (0 + j * 4) (B j)) := hops
      have HBE : Hid (Below w.heap.size w wr) := hbel
      have HSO : Hid (Soft w wr) := hsoft
      clear hB hs hrow hops hbel hsoft hmk
      go_wp2_with fail
      refine (toIns_any Q sa sc (B m) _ HS.out hsl).mono ?_
      rintro e W ⟨⟨a', c', rfl, hI⟩, hb, hso⟩
      have hrw : Row W w.heap.size 129 (n * 4) := HROW.out.of_block (hb.block _ hsz)
      obtain ⟨u0, r0⟩ := hrw.cell (i := m * 4) (by omega)
      obtain ⟨u1, r1⟩ := hrw.cell (i := m * 4 + 1) (by omega)
      obtain ⟨u2, r2⟩ := hrw.cell (i := m * 4 + 2) (by omega)
      obtain ⟨u3, r3⟩ := hrw.cell (i := m * 4 + 3) (by omega)
      have f0 := hrw.frozen (m * 4)
      have f1 := hrw.frozen (m * 4 + 1)
      have f2 := hrw.frozen (m * 4 + 2)
      have f3 := hrw.frozen (m * 4 + 3)
      have HRW : Hid (Row W w.heap.size 129 (n * 4)) := hrw
      have HB2 : Hid (Below wr.heap.size wr W) := hb
      have HSO2 : Hid (Soft wr W) := hso
      have HI : Hid (Ints (New wr W) .i64 W a' (B m).sl (B m).set) := hI
      clear hrw hb hso hI
      go_wp2
      go_roundw
      case rel =>
        show insI w n B _ (put4 W w.heap.size (m * 4) _ _ _ _)
        have hsz2 := HB2.out.size
        obtain ⟨p0, p1, p2, p3⟩ := put4_cells (v0 := .int .i64 (B m).kind) (v1 := .int .i64 (B m).arg) (v2 := .int .i64 (B m).to) (v3 := .slice a' (B m).sl c') HRW.out (o := m * 4) (by omega)
        refine ⟨m + 1, by omega, by go_num, put4_row HRW.out, all_snoc (fun j hj => ?_) ?_, put4_bel (bel_tr HBE.out HB2.out) _ _ _ _ _ _ (Nat.le_refl _), by rw [put4_size]; omega, put4_soft (HSO.out.trans HSO2.out HB2.out) _ _ _ _ _ _⟩
        · exact (((HOPS.out j hj).later HB2.out).put (fun h => by omega) (by omega)).wide (fun b hb => ⟨hb.1, by rw [put4_size]; omega⟩)
        · rw [Nat.zero_add]
          exact ⟨p0, p1, p2, a', c', p3, (HI.out.on (put4_stay (fun h => by have := h.1; omega))).wide (fun b hb => ⟨by have := hb.1; omega, by rw [put4_size]; exact hb.2⟩)⟩
      case measure => simp [intOf]; omega
    · obtain rfl : m = n := by omega
      go_wp2
      go_ret
      refine ⟨⟨_, _, rfl, .inr ⟨w.heap.size, 0, rfl, ⟨Nat.le_refl _, hsz⟩, fun i hi => ?_⟩⟩, hbel, hsoft⟩
      exact (hops i hi).wide (fun b hb => ⟨by omega, hb.2⟩)

/-! ### An argument, opened -/
theorem cells134 : Try.prog.cellsOf 134 = 4 := by kernel_rfl
section
variable {H : Type} {enc : TypeId × Value → H} {w : World} {base : Nat} {spare : Nat → Bool} {held : Bool}
theorem trod_struct4 {t : TypeId} {f0 f1 f2 f3 : Field} {fuel : Nat} {cs : List Value} {x : DataW H × List MemPlace} (ht : Try.prog.underlying t = some (.struct #[f0, f1, f2, f3])) (h : DataW.trod enc Try.prog w base spare held fuel t cs = some x) :
    ∃ y0 y1 y2 y3 n, cs.length = Try.prog.cellsOf t ∧ DataW.trod enc Try.prog w base spare held n f0.type ((cs.drop f0.offset).take (Try.prog.cellsOf f0.type)) = some y0 ∧
      DataW.trod enc Try.prog w base spare held n f1.type ((cs.drop f1.offset).take (Try.prog.cellsOf f1.type)) = some y1 ∧ DataW.trod enc Try.prog w base spare held n f2.type ((cs.drop f2.offset).take (Try.prog.cellsOf f2.type)) = some y2 ∧ DataW.trod enc Try.prog w base spare held n f3.type ((cs.drop f3.offset).take (Try.prog.cellsOf f3.type)) = some y3 := by
  obtain ⟨xs, n, _, rfl, hl, hlen, hf⟩ := DataW.trod_struct ht h
  match xs, hlen with
  | [y0, y1, y2, y3], _ => exact ⟨y0, y1, y2, y3, n, hl, by simpa using hf 0 f0 rfl, by simpa using hf 1 f1 rfl, by simpa using hf 2 f2 rfl, by simpa using hf 3 f3 rfl⟩
theorem list4 {l : List Value} (h : l.length = 4) : ∃ a b c d, l = [a, b, c, d] := by
  match l, h with
  | [a, b, c, d], _ => exact ⟨a, b, c, d, rfl⟩
theorem arg_in {f : Nat} {cs : List Value} {y : DataW H × List MemPlace} {b o : Nat} (h : DataW.trod enc Try.prog w base spare held f 134 cs = some y) (hl : cs.length = 4) (hc : ∀ j, j < 4 → w.cell? ⟨b, o + j, none⟩ = cs[j]?) :
    ∃ d : InsD, InsC Any w b o d ∧ d.sl ≤ 9223372036854775807 := by
  obtain ⟨y0, y1, y2, y3, n, _, h0, h1, h2, h3⟩ := trod_struct4 Try.underlying134 h
  obtain ⟨v0, v1, v2, v3, rfl⟩ := list4 hl
  simp only [cells3, cells57, List.drop_zero, List.take_succ_cons, List.take_zero, List.drop_succ_cons] at h0 h1 h2 h3
  obtain ⟨k, e0, _, _⟩ := DataW.trod_int Try.underlying3 h0
  obtain ⟨g, e1, _, _⟩ := DataW.trod_int Try.underlying3 h1
  obtain ⟨t, e2, _, _⟩ := DataW.trod_int Try.underlying3 h2
  obtain ⟨a, m, c, S, e3, hS, hm, _⟩ := arg_ints Try.underlying57 Try.underlying3 cells3 h3
  simp only [List.cons.injEq, and_true] at e0 e1 e2 e3
  subst e0 e1 e2 e3
  have c0 := hc 0 (by omega)
  have c1 := hc 1 (by omega)
  have c2 := hc 2 (by omega)
  have c3 := hc 3 (by omega)
  exact ⟨⟨k, g, t, m, S⟩, ⟨by simpa using c0, by simpa using c1, by simpa using c2, a, c, by simpa using c3, hS⟩, hm⟩
instance : Inhabited InsD := ⟨ins 0 0 0⟩
theorem arg_ins {f : Nat} {cs : List Value} {y : DataW H × List MemPlace} (h : DataW.trod enc Try.prog w base spare held f 55 cs = some y) :
    ∃ a n c, ∃ B : Nat → InsD, cs = [.slice a n c] ∧ InsA Any w a n B ∧ n ≤ 9223372036854775807 ∧ ∀ i, i < n → (B i).sl ≤ 9223372036854775807 := by
  obtain ⟨a, n, c, R, e, hn, hR⟩ := arg_list Try.underlying55 cells134 (by omega) (fun b o (d : InsD) => InsC Any w b o d ∧ d.sl ≤ 9223372036854775807) (fun f cs' y b o h hl hc => arg_in h hl hc) h
  refine ⟨a, n, c, R, e, ?_, hn, fun i hi => ?_⟩
  · rcases hR with h0 | ⟨b, off, e, hR⟩
    · exact .inl h0
    · exact .inr ⟨b, off, e, trivial, fun i hi => (hR i hi).1⟩
  · rcases hR with h0 | ⟨b, off, e, hR⟩
    · omega
    · exact (hR i hi).2
end

/-- Three numbers are stored. -/
def set3 (w : World) (b o : Nat) (x y z : Int) : World := ((w.setCell ⟨b, o, none⟩ (.int .i64 x)).setCell ⟨b, o + 1, none⟩ (.int .i64 y)).setCell ⟨b, o + 2, none⟩ (.int .i64 z)

theorem set3_block (w : World) (b o : Nat) (x y z : Int) (c : Nat) (h : c ≠ b) : (set3 w b o x y z).heap[c]? = w.heap[c]? := by
  unfold set3
  rw [Below.heap_setCell _ _ _ _ h, Below.heap_setCell _ _ _ _ h, Below.heap_setCell _ _ _ _ h]
theorem set3_far (w : World) (b o : Nat) (x y z : Int) (j : Nat) (h0 : j ≠ o) (h1 : j ≠ o + 1) (h2 : j ≠ o + 2) : (set3 w b o x y z).cell? ⟨b, j, none⟩ = w.cell? ⟨b, j, none⟩ := by
  unfold set3
  rw [cell_set_other (by omega), cell_set_other (by omega), cell_set_other (by omega)]
theorem set3_frozen (w : World) (b o : Nat) (x y z : Int) (a : Addr) : (set3 w b o x y z).frozen? a = w.frozen? a := by
  unfold set3
  rw [World.frozen?_setCell, World.frozen?_setCell, World.frozen?_setCell]
theorem set3_wrote {Q : Nat → Prop} {w : World} {b o : Nat} {u0 u1 u2 : Int} (x y z : Int) (hq : Q b) (h0 : w.cell? ⟨b, o, none⟩ = some (.int .i64 u0)) (h1 : w.cell? ⟨b, o + 1, none⟩ = some (.int .i64 u1)) (h2 : w.cell? ⟨b, o + 2, none⟩ = some (.int .i64 u2)) : Wrote Q w (set3 w b o x y z) := by
  unfold set3
  have k1 : (w.setCell ⟨b, o, none⟩ (.int .i64 x)).cell? ⟨b, o + 1, none⟩ = some (.int .i64 u1) := by rw [cell_set_other (by omega)]; exact h1
  have k2 : ((w.setCell ⟨b, o, none⟩ (.int .i64 x)).setCell ⟨b, o + 1, none⟩ (.int .i64 y)).cell? ⟨b, o + 2, none⟩ = some (.int .i64 u2) := by rw [cell_set_other (by omega), cell_set_other (by omega)]; exact h2
  exact ((Wrote.setInt hq h0 x).trans (Wrote.setInt hq k1 y)).trans (Wrote.setInt hq k2 z)
theorem set3_cells {w : World} {b o : Nat} {u0 u1 u2 : Value} (x y z : Int) (h0 : w.cell? ⟨b, o, none⟩ = some u0) (h1 : w.cell? ⟨b, o + 1, none⟩ = some u1) (h2 : w.cell? ⟨b, o + 2, none⟩ = some u2) :
    (set3 w b o x y z).cell? ⟨b, o, none⟩ = some (.int .i64 x) ∧ (set3 w b o x y z).cell? ⟨b, o + 1, none⟩ = some (.int .i64 y) ∧ (set3 w b o x y z).cell? ⟨b, o + 2, none⟩ = some (.int .i64 z) := by
  unfold set3
  have k1 : (w.setCell ⟨b, o, none⟩ (.int .i64 x)).cell? ⟨b, o + 1, none⟩ = some u1 := by rw [cell_set_other (by omega)]; exact h1
  have k2 : ((w.setCell ⟨b, o, none⟩ (.int .i64 x)).setCell ⟨b, o + 1, none⟩ (.int .i64 y)).cell? ⟨b, o + 2, none⟩ = some u2 := by rw [cell_set_other (by omega), cell_set_other (by omega)]; exact h2
  refine ⟨?_, ?_, World.cell?_setCell_same _ _ _ k2⟩
  · rw [cell_set_other (by omega), cell_set_other (by omega)]; exact World.cell?_setCell_same _ _ _ h0
  · rw [cell_set_other (by omega)]; exact World.cell?_setCell_same _ _ _ k1

/-! ### A mark of instructions, whatever lies where -/
theorem InsC.wrote {Q Q' : Nat → Prop} {w w' : World} {b o : Nat} {d : InsD} (h : InsC Q w b o d) (t : Wrote Q' w w') : ∃ d', InsC Q w' b o d' ∧ d'.sl = d.sl := by
  obtain ⟨h0, h1, h2, a, c, h3, h4⟩ := h
  obtain ⟨k, e0⟩ := like_int t h0
  obtain ⟨g, e1⟩ := like_int t h1
  obtain ⟨z, e2⟩ := like_int t h2
  obtain ⟨S, hS⟩ := h4.wrote t
  exact ⟨⟨k, g, z, d.sl, S⟩, ⟨e0, e1, e2, a, c, like_slice t h3, hS⟩, rfl⟩

set_option maxRecDepth 100000 in
set_option maxHeartbeats 4000000 in
theorem markInsS_shape (Q : Nat → Prop) (a : Option Addr) (n c : Nat) (R : Nat → InsD) (k : Int) (w : World) (hA : InsA Q w a n R) (hs : SmallI n R) (hf : SoftQ Q w) (h0 : 0 ≤ k) (h1 : k ≤ 4) :
    Calls Try.prog 39 #[.slice a n c, .int .i64 k] w (MarkIs Q k 1099514773504 w) := by
  have HA : Hid (InsA Q w a n R) := hA
  have HSL : Hid (∀ i, i < n → (R i).sl ≤ 1048576) := hs.2
  have HF : Hid (SoftQ Q w) := hf
  have hn := hs.1
  clear hA hs hf
  go_enter Try.func39, Try.ntmps39
  go_wp2
  go_loopw [1, 5] (fun kv i wr => mkI Q w n k 1048579 kv i wr) (fun kv i _ => n - (intOf i).toNat)
  case atStart => exact ⟨0, k, Nat.zero_le _, rfl, by omega, by omega, rfl, Wrote.refl _ _⟩
  case round =>
    obtain ⟨m, r, hm, rfl, r0, r1, rfl, hw⟩ := hrel
    by_cases hlt : m < n
    · have hA' := HA.out
      rcases hA' with h0 | ⟨b, off, rfl, hq, hA'⟩
      · omega
      obtain ⟨d, hd, hdl⟩ := (hA' m hlt).wrote hw
      have hsl : d.sl ≤ 1048576 := by rw [hdl]; exact HSL.out m hlt
      obtain ⟨c0, c1, c2, sa, sc, c3, hs1⟩ := hd
      have hlt' : (m : Int) < (n : Int) := by omega
      have hf0 := HF.out.on hw
      have fz0 := hf0 b (off + m * 4) hq
      have fz1 := hf0 b (off + m * 4 + 1) hq
      have fz2 := hf0 b (off + m * 4 + 2) hq
      have hw1 := set3_wrote (Q := Q) r (r + 1) (r + 1 + 1) hq c0 c1 c2
      obtain ⟨S2, hS2⟩ := hs1.wrote hw1
      have HS2 : Hid (Ints Q .i64 (set3 wr b (off + m * 4) r (r + 1) (r + 1 + 1)) sa d.sl S2) := hS2
      have HF2 : Hid (SoftQ Q (set3 wr b (off + m * 4) r (r + 1) (r + 1 + 1))) := hf0.on hw1
      have HW1 : Hid (Wrote Q w (set3 wr b (off + m * 4) r (r + 1) (r + 1 + 1))) := hw.trans hw1
      have rb0 : 0 ≤ r + 1 + 1 + 1 := by omega
      have rb1 : r + 1 + 1 + 1 ≤ 4611686018427387904 + 1099513724928 := by omega
      clear hw hA' hs1 hw1 hS2 hf0 hdl
      go_wp2_with (go_at_call 99; refine (markIntS_shape' Q sa d.sl sc S2 (r + 1 + 1 + 1) _ HS2.out HF2.out hsl rb0 rb1).mono ?_; rintro e W ⟨⟨q, rfl, q0, q1⟩, hW⟩; have HW2 : Hid (Wrote Q w W) := HW1.out.trans hW; clear hW)
      go_roundw
      case rel => exact ⟨m + 1, q, by omega, rfl, by omega, by omega, by go_num, HW2.out⟩
      case measure => simp [intOf]; omega
    · obtain rfl : m = n := by omega
      go_wp2
      go_ret
      exact ⟨⟨r, rfl, r0, by omega⟩, hw⟩

/-- The numbers from k on. -/
def from_ (k : Int) : Nat → Int := fun i => k + i
def mxI (Q : Nat → Prop) (w : World) (a : Option Addr) (n : Nat) (k : Int) (kv i : Value) (wr : World) : Prop :=
  ∃ m : Nat, m ≤ n ∧ kv = .int .i64 (k + m) ∧ i = .int .i64 (m : Int) ∧ Wrote Q w wr ∧ Ints Q .i64 wr a m (from_ k)
/-- What a mark answers: the next number, and the numbers lie there. -/
structure MarkX (A : World → Prop) (Q : Nat → Prop) (k' : Int) (w : World) (e : Ending) (w' : World) : Prop where
  val : e = .returned (.int .i64 k')
  lies : A w'
  wrote : Wrote Q w w'
theorem mx_snoc {Q : Nat → Prop} {wr : World} {b off m : Nat} {k : Int} {u : Value} (h : Ints Q .i64 wr (some ⟨b, off, none⟩) m (from_ k)) (hq : Q b) (hc : wr.cell? ⟨b, off + m, none⟩ = some u) :
    Ints Q .i64 (wr.setCell ⟨b, off + m, none⟩ (.int .i64 (k + m))) (some ⟨b, off, none⟩) (m + 1) (from_ k) := by
  refine .inr ⟨b, off, rfl, hq, fun i hi => ?_⟩
  by_cases e : i = m
  · subst e; exact World.cell?_setCell_same _ _ _ hc
  · rw [World.cell?_setCell_other _ _ _ _ (fun q => e (by injection q with _ q; omega))]
    rcases h with h | ⟨b', off', e', _, h⟩
    · omega
    · cases e'
      exact h i (by omega)

set_option maxHeartbeats 1000000 in
theorem markIntS_exact (Q : Nat → Prop) (a : Option Addr) (n c : Nat) (S : Nat → Int) (k : Int) (w : World) (hS : Ints Q .i64 w a n S) (hf : SoftQ Q w) (hn : n ≤ 1048576) (h0 : 0 ≤ k) (h1 : k ≤ 4611686018427387904 + 1099513724928) :
    Calls Try.prog 99 #[.slice a n c, .int .i64 k] w (MarkX (fun w' => Ints Q .i64 w' a n (from_ k)) Q (k + n) w) := by
  have HS : Hid (Ints Q .i64 w a n S) := hS
  have HF : Hid (SoftQ Q w) := hf
  clear hS hf
  go_enter Try.func99, Try.ntmps99
  go_wp2
  go_loopw [1, 5] (fun kv i wr => mxI Q w a n k kv i wr) (fun kv i _ => n - (intOf i).toNat)
  case atStart => exact ⟨0, Nat.zero_le _, by simp, rfl, Wrote.refl _ _, .inl rfl⟩
  case round =>
    obtain ⟨m, hm, rfl, rfl, hw, hI⟩ := hrel
    by_cases hlt : m < n
    · obtain ⟨S', hS'⟩ := HS.out.wrote hw
      rcases hS' with h0 | ⟨b, off, rfl, hq, hS'⟩
      · omega
      have hc := hS' m hlt
      have hfz := (HF.out.on hw) b (off + m) hq
      have HW : Hid (Wrote Q w (wr.setCell ⟨b, off + m, none⟩ (.int .i64 (k + m)))) := hw.trans (Wrote.setInt hq hc (k + m))
      have HI : Hid (Ints Q .i64 (wr.setCell ⟨b, off + m, none⟩ (.int .i64 (k + m))) (some ⟨b, off, none⟩) (m + 1) (from_ k)) := mx_snoc hI hq hc
      clear hw hS' hI
      go_wp2
      go_roundw
      case rel => exact ⟨m + 1, by omega, by congr 1; omega, by go_num, HW.out, HI.out⟩
      case measure => simp [intOf]; omega
    · obtain rfl : m = n := by omega
      go_wp2
      go_ret
      exact ⟨rfl, hI, hw⟩

def hoI (w : World) (n : Nat) (f : Nat → Int) (kv i : Value) (wr : World) : Prop :=
  ∃ m : Nat, m ≤ n ∧ kv = .int .i64 (f m) ∧ i = .int .i64 (m : Int) ∧ wr = w
def HeldIs (k : Int) (w : World) (e : Ending) (w' : World) : Prop := e = .returned (.int .i64 k) ∧ w' = w

set_option maxHeartbeats 1000000 in
theorem heldIntS_any (Q : Nat → Prop) (a : Option Addr) (n c : Nat) (k : Int) (w : World) (hS : Ints Q .i64 w a n (from_ k)) (hn : n ≤ 1048576) (h0 : 0 ≤ k) (h1 : k ≤ 4611686018427387904 + 1099513724928) :
    Calls Try.prog 100 #[.slice a n c, .int .i64 k] w (HeldIs (k + n) w) := by
  have HS : Hid (Ints Q .i64 w a n (from_ k)) := hS
  clear hS
  go_enter Try.func100, Try.ntmps100
  go_wp2
  go_loopw [1, 5] (fun kv i wr => hoI w n (fun m => k + m) kv i wr) (fun kv i _ => n - (intOf i).toNat)
  case atStart => exact ⟨0, Nat.zero_le _, by simp, rfl, rfl⟩
  case round =>
    obtain ⟨m, hm, rfl, rfl, hw⟩ := hrel
    subst wr
    by_cases hlt : m < n
    · have hS' := HS.out
      rcases hS' with h0 | ⟨b, off, rfl, hq, hS'⟩
      · omega
      have hc : w.cell? ⟨b, off + m, none⟩ = some (.int .i64 (k + m)) := hS' m hlt
      clear hS'
      go_wp2
      go_roundw
      case rel => exact ⟨m + 1, by omega, by congr 1; show _ = k + ((m + 1 : Nat) : Int); omega, by go_num, rfl⟩
      case measure => simp [intOf]; omega
    · obtain rfl : m = n := by omega
      go_wp2
      go_ret
      exact ⟨rfl, rfl⟩

end Go.Proofs.Ytcmcbemcfjbchab
