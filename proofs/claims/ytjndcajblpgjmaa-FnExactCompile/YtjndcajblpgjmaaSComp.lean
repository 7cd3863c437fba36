/-
  Walks: the specification's sizes and places of instructions.
-/
import Derived.Test.YtjndcajblpgjmaaCMem
import Derived.Test.YtjndcajblpgjmaaSNul
import Derived.Deep.RegionHeld3
namespace Go.Proofs.Ytjndcajblpgjmaa
open Go.RowKit
open M (OpD NodeD Gr InsD EX ins emit wsum wt)
set_option linter.unusedVariables false
set_option linter.unusedSimpArgs false

def hasB (g : Gr) (p : Nat) : Bool := decide (0 < (nd g p).bl)
def trG (g : Gr) (p : Nat) : EX := M.treeE g.nr (nd g p).bl (nd g p).body
def opG (g : Gr) (p : Nat) : InsD := if p < g.nr then ins 9 p 0 else ins 10 ((p - g.nr : Nat) : Int) 0
def PL (g : Gr) (k : Nat) : Nat := (M.progC (fun _ => 0) (opG g) (trG g) (hasB g) k).length
def plc (g : Gr) (p : Nat) : Int := M.placeC (opG g) (trG g) (hasB g) p
theorem plc_eq (g : Gr) (p : Nat) : plc g p = if 0 < (nd g p).bl then (PL g p : Int) else -1 := by
  unfold plc M.placeC PL
  by_cases h : 0 < (nd g p).bl
  · have e : hasB g p = true := by simp [hasB, h]
    rw [if_pos e, if_pos h]
  · have e : ¬ hasB g p = true := by simp [hasB, h]
    rw [if_neg e, if_neg h]
theorem PL_succ (g : Gr) (k : Nat) : PL g (k + 1) = if 0 < (nd g k).bl then PL g k + ((trG g k).len + 3) else PL g k := by
  unfold PL
  rw [M.progC]
  by_cases h : 0 < (nd g k).bl
  · have e : hasB g k = true := by simp [hasB, h]
    rw [if_pos e, if_pos h, List.length_append, M.nodeC_len]
  · have e : ¬ hasB g k = true := by simp [hasB, h]
    rw [if_neg e, if_neg h]
theorem tree_len {nr nb n : Nat} {B : Nat → OpD} (h : M.BodyOK nr nb n B) : (M.treeE nr n B).len = wsum B n := by
  have := M.top_len nr B n 0 _ h.2.1 (stk_whole (M.nodeE nr) B n h.2) (Nat.zero_le _)
  simp only [wsum, Nat.add_zero] at this
  exact this
theorem seg_len {nr : Nat} {B : Nat → OpD} {hi lo n : Nat} {x : EX} (hF : M.Fed B hi) (h : M.stk (M.nodeE nr) B hi = (lo, x) :: M.stk (M.nodeE nr) B lo) (hl : n + lo = hi) : wsum (fun i => B (lo + i)) n = x.len := by
  have h1 := M.top_len nr B hi lo x hF h (by omega)
  have h2 := M.wsum_shift B lo n
  rw [show lo + n = hi by omega] at h2
  omega

def lszI (w : World) (T : Nat → OpD) (n : Nat) (sv iv : Value) (wr : World) : Prop := ∃ k : Nat, k ≤ n ∧ iv = .int .i64 (k : Int) ∧ sv = .int .i64 ((wsum T k : Nat) : Int) ∧ wr = w

set_option maxHeartbeats 4000000 in
theorem l4size_any (Q : Nat → Prop) (a : Option Addr) (n c : Nat) (T : Nat → OpD) (w : World) (hB : OpsA Q w a n T) (hk : ∀ i, i < n → 0 ≤ (T i).kind ∧ (T i).kind ≤ 7) (hn : n ≤ 2000) :
    Calls Try.prog 180 #[.slice a n c] w fun e w' => e = .returned (.int .i64 ((wsum T n : Nat) : Int)) ∧ w = w' := by
  have HB : Hid (OpsA Q w a n T) := hB
  have HK : Hid (∀ i, i < n → 0 ≤ (T i).kind ∧ (T i).kind ≤ 7) := hk
  clear hB hk
  go_enter Try.func180, Try.ntmps180
  go_wp2
  go_loopw [3, 4] (fun sv iv wr => lszI w T n sv iv wr) (fun _ iv _ => n - (intOf iv).toNat)
  case atStart => exact ⟨0, Nat.zero_le _, rfl, rfl, rfl⟩
  case round =>
    obtain ⟨k, hk, rfl, rfl, rfl⟩ := hrel
    have hwb := M.wsum_bd T k
    by_cases hlt : k < n
    · rcases HB.out with h0 | ⟨b, off, rfl, hq, hB⟩
      · omega
      obtain ⟨c0, _, _⟩ := hB k hlt
      obtain ⟨k0, k7⟩ := HK.out k hlt
      have HS : Hid (wsum T (k + 1) = wsum T k + wt (T k).kind) := rfl
      have hlt' : (k : Int) < (n : Int) := by omega
      clear hB
      generalize wsum T k = ws at *
      have hc : (T k).kind = 0 ∨ (T k).kind = 1 ∨ (T k).kind = 2 ∨ (T k).kind = 3 ∨ (T k).kind = 4 ∨ (T k).kind = 5 ∨ (T k).kind = 6 ∨ (T k).kind = 7 := by omega
      clear k0 k7
      generalize (T k).kind = kd at *
      rcases hc with rfl | rfl | rfl | rfl | rfl | rfl | rfl | rfl
      all_goals (
        go_wp2
        go_roundw
        case rel => exact ⟨k + 1, by omega, by go_num, by rw [HS.out]; first | rfl | (simp [wt]), rfl⟩
        case measure => simp [intOf]; omega)
    · obtain rfl : k = n := by omega
      go_wp2
      go_ret
      exact ⟨rfl, rfl⟩

theorem elem_kinds {nr nb n : Nat} {B : Nat → OpD} (h : ∀ i, i < n → M.ElemOK nr nb (B i)) : ∀ i, i < n → 0 ≤ (B i).kind ∧ (B i).kind ≤ 7 := fun i hi => ⟨(h i hi).1, (h i hi).2.1⟩
theorem nd_bd {g : Gr} (hV : M.Valid g) {p : Nat} (hp : p < g.nr + g.nb) : (nd g p).bl ≤ 2000 := by
  have h3 := hV.ol
  unfold M.ops at h3
  by_cases e : p < g.nr
  · rw [nd_rule g e]
    have := M.le_sum (fun i => (g.rule i).bl) e
    omega
  · obtain ⟨i, rfl⟩ : ∃ i, p = g.nr + i := ⟨p - g.nr, by omega⟩
    rw [nd_lab]
    have := M.le_sum (fun i => (g.lab i).bl) (i := i) (n := g.nb) (by omega)
    omega
theorem nd_sum {g : Gr} (k : Nat) (hk : k ≤ g.nr + g.nb) : M.sum (fun i => (nd g i).bl) k ≤ M.ops g := by
  unfold M.ops
  by_cases e : k ≤ g.nr
  · have h1 : ∀ j, j ≤ g.nr → M.sum (fun i => (nd g i).bl) j = M.sum (fun i => (g.rule i).bl) j := by
      intro j
      induction j with
      | zero => intro _; rfl
      | succ j ih => intro hj; rw [M.sum, M.sum, ih (by omega), nd_rule g (show j < g.nr by omega)]
    rw [h1 k e]
    have := M.sum_le (fun i => (g.rule i).bl) e
    omega
  · have h1 : ∀ j, j ≤ g.nr → M.sum (fun i => (nd g i).bl) j = M.sum (fun i => (g.rule i).bl) j := by
      intro j
      induction j with
      | zero => intro _; rfl
      | succ j ih => intro hj; rw [M.sum, M.sum, ih (by omega), nd_rule g (show j < g.nr by omega)]
    have h2 : ∀ j, M.sum (fun i => (nd g i).bl) (g.nr + j) = M.sum (fun i => (g.rule i).bl) g.nr + M.sum (fun i => (g.lab i).bl) j := by
      intro j
      induction j with
      | zero => rw [Nat.add_zero, h1 g.nr (Nat.le_refl _)]; rfl
      | succ j ih => rw [← Nat.add_assoc, M.sum, ih, M.sum, nd_lab]; omega
    obtain ⟨j, rfl⟩ : ∃ j, k = g.nr + j := ⟨k - g.nr, by omega⟩
    rw [h2 j]
    have := M.sum_le (fun i => (g.lab i).bl) (show j ≤ g.nb by omega)
    omega
theorem PL_bd {g : Gr} (hV : M.Valid g) (k : Nat) (hk : k ≤ g.nr + g.nb) : PL g k ≤ 2 + 3 * k + 2 * M.sum (fun i => (nd g i).bl) k := by
  induction k with
  | zero => exact Nat.le_refl _
  | succ k ih =>
    have h := ih (by omega)
    rw [PL_succ, M.sum]
    split
    · rename_i hp
      have hb : M.BodyOK g.nr g.nb (nd g k).bl (nd g k).body := (valid_node hV (show k < g.nr + g.nb by omega)).elim (fun q => by omega) id
      have h1 := tree_len hb
      have h2 := M.wsum_bd (nd g k).body (nd g k).bl
      unfold trG
      omega
    · omega
theorem PL_small {g : Gr} (hV : M.Valid g) (k : Nat) (hk : k ≤ g.nr + g.nb) : PL g k ≤ 5000 := by
  have h1 := PL_bd hV k hk
  have h2 := nd_sum k hk
  have h3 := hV.ol
  have h4 := hV.r2
  have h5 := hV.l2
  omega

def plI (w : World) (g : Gr) (p : Nat) (av iv : Value) (wr : World) : Prop := ∃ k : Nat, k ≤ p ∧ iv = .int .i64 (k : Int) ∧ av = .int .i64 ((PL g k : Nat) : Int) ∧ Below w.heap.size w wr

set_option maxRecDepth 100000 in
set_option maxHeartbeats 4000000 in
theorem l4place_any (Q : Nat → Prop) (ra la : Option Addr) (rc lc : Nat) (g : Gr) (hV : M.Valid g) (w : World) (hG : GramX Q w ra la g) (p : Nat) (hp : p < g.nr + g.nb) :
    Calls Try.prog 179 #[.agg #[.slice ra g.nr rc, .slice la g.nb lc], .int .i64 (p : Int)] w fun e w' => e = .returned (.int .i64 (plc g p)) ∧ Below w.heap.size w w' := by
  have HG : Hid (GramX Q w ra la g) := hG
  have HV : Hid (M.Valid g) := hV
  have h1 := hV.r2
  have h2 := hV.l2
  have HP : Hid (plc g p = if 0 < (nd g p).bl then (PL g p : Int) else -1) := plc_eq g p
  clear hG hV
  go_enter Try.func179, Try.ntmps179
  go_wp2_with fail
  refine (l3body_any Q ra la rc lc g _ (HG.out.later (bel1 w _)) h1 h2 p hp).mono ?_
  rintro e W1 ⟨⟨a1, c1, rfl, ho1, hc1⟩, hb1⟩
  have g0 := cell_on (a := ⟨w.heap.size, 0, none⟩) (v := .slice ra g.nr rc) (cN w.heap.size rfl rfl) hb1
  have g1 := cell_on (a := ⟨w.heap.size, 1, none⟩) (v := .slice la g.nb lc) (cN w.heap.size rfl rfl) hb1
  have B1 : Hid (Below w.heap.size w W1) := bel_tr (bel1 w _) hb1
  have hw1 : w.heap.size < W1.heap.size := lt_of_cell g0
  clear ho1 hc1 hb1
  by_cases h0 : (nd g p).bl = 0
  · have HR : Hid (plc g p = -1) := by show _ = _; rw [HP.out, if_neg (by omega)]
    have f0 : (((nd g p).bl : Int) == 0) = true := by simp [h0]
    clear h0
    go_wp2
    go_ret
    exact ⟨ret_int HR.out.symm, B1.out⟩
  · have HR : Hid (plc g p = (PL g p : Int)) := by show _ = _; rw [HP.out, if_pos (by omega)]
    have f0 : (((nd g p).bl : Int) == 0) = false := by simp [h0]
    have G0 : Hid (W1.cell? ⟨w.heap.size, 0, none⟩ = some (.slice ra g.nr rc)) := g0
    have G1 : Hid (W1.cell? ⟨w.heap.size, 1, none⟩ = some (.slice la g.nb lc)) := g1
    clear h0
    go_wp2
    go_loopw [5, 6] (fun av iv wr => plI W1 g p av iv wr) (fun _ iv _ => p - (intOf iv).toNat)
    case atStart => exact ⟨0, Nat.zero_le _, rfl, rfl, Below.refl _ _⟩
    case round =>
      clear g0 g1
      obtain ⟨k, hk, rfl, rfl, hbel⟩ := hrel
      have HB : Hid (Below W1.heap.size W1 wr) := hbel
      have y0 := cell_on G0.out hbel
      have y1 := cell_on G1.out hbel
      have hpl := PL_small HV.out k (by omega)
      have hwr : w.heap.size < wr.heap.size := lt_of_cell y0
      clear hbel
      by_cases hlt : k < p
      · have HPS := PL_succ g k
        have hlt' : (k : Int) < (p : Int) := by omega
        go_wp2_with fail
        refine (l3body_any Q ra la rc lc g _ (HG.out.later (bel_tr B1.out HB.out)) h1 h2 k (by omega)).mono ?_
        rintro e W2 ⟨⟨a2, c2, rfl, ho2, hc2⟩, hb2⟩
        have B2 : Hid (Below W1.heap.size W1 W2) := bel_tr HB.out hb2
        have z0 := cell_on y0 hb2
        have z1 := cell_on y1 hb2
        clear ho2 hc2 hb2 y0 y1
        by_cases hk0 : 0 < (nd g k).bl
        · have hk0' : (0 : Int) < ((nd g k).bl : Int) := by omega
          have hok : M.BodyOK g.nr g.nb (nd g k).bl (nd g k).body := (valid_node HV.out (show k < g.nr + g.nb by omega)).elim (fun q => by omega) id
          have HOK : Hid (M.BodyOK g.nr g.nb (nd g k).bl (nd g k).body) := hok
          have hws := M.wsum_bd (nd g k).body (nd g k).bl
          have hbd := nd_bd HV.out (show k < g.nr + g.nb by omega)
          have HN : Hid (PL g (k + 1) = PL g k + (wsum (nd g k).body (nd g k).bl + 3)) := by
            show _ = _
            rw [HPS, if_pos hk0, show (trG g k).len = wsum (nd g k).body (nd g k).bl from tree_len hok]
          clear HPS hk0 hok
          go_wp2_with fail
          refine (l3body_any Q ra la rc lc g _ (HG.out.later (bel_tr B1.out B2.out)) h1 h2 k (by omega)).mono ?_
          rintro e W3 ⟨⟨a3, c3, rfl, ho3, hc3⟩, hb3⟩
          have B3 : Hid (Below W1.heap.size W1 W3) := bel_tr B2.out hb3
          have HO3 : Hid (OpsA Q W3 a3 (nd g k).bl (nd g k).body) := ho3
          clear ho3 hc3 hb3 z0 z1
          go_wp2_with (go_at_call 180; refine (l4size_any Q a3 (nd g k).bl c3 (nd g k).body _ HO3.out (elem_kinds HOK.out.1) hbd).mono ?_; rintro e W4 ⟨rfl, hw⟩; subst W4)
          go_roundw
          case rel => exact ⟨k + 1, by omega, by go_num, by rw [HN.out]; first | go_num | (congr 1; omega), B3.out⟩
          case measure => simp [intOf]; omega
        · have hk0' : ¬ (0 : Int) < ((nd g k).bl : Int) := by omega
          have HN : Hid (PL g (k + 1) = PL g k) := by show _ = _; rw [HPS, if_neg hk0]
          clear HPS hk0
          go_wp2
          go_roundw
          case rel => exact ⟨k + 1, by omega, by go_num, by rw [HN.out], B2.out⟩
          case measure => simp [intOf]; omega
      · obtain rfl : k = p := by omega
        go_wp2
        go_ret
        exact ⟨ret_int HR.out.symm, bel_tr B1.out HB.out⟩

end Go.Proofs.Ytjndcajblpgjmaa
