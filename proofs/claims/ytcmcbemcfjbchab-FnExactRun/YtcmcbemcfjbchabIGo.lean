/-
  Walks: the program's table of actions; the checks ahead of a run.
-/
import Derived.Test.YtcmcbemcfjbchabRRun
namespace Go.Proofs.Ytcmcbemcfjbchab
open Go.RowKit
open M (OpD NodeD Gr InsD)
set_option linter.unusedVariables false
set_option linter.unusedSimpArgs false

def fnV (f : FuncId) : Value := .func (.func f) #[] #[]
def logV (k : Nat) : Value := .func (.func 228) #[] #[.pointer (some ⟨k, 0, none⟩)]
def actA (k0 k1 k2 : Nat) : Array Value := #[fnV 198, fnV 199, fnV 200, fnV 201, fnV 202, fnV 203, fnV 204, fnV 205, fnV 206, logV k0, logV k1, logV k2, fnV 208]
set_option maxHeartbeats 1000000 in
theorem logging_fn (k : Int) (w : World) : Calls Try.prog 207 #[.int .i64 k] w (fun e w' => e = .returned (.func (.func 228) #[] #[.pointer (some ⟨w.heap.size, 0, none⟩)]) ∧ w' = w.alloc (.cells #[.int .i64 k] 3)) := by
  go_enter Try.func207, Try.ntmps207
  go_wp2
  go_ret
  exact ⟨rfl, rfl⟩
theorem store_func (a : Addr) (fn : Fn) (f c : Array Value) (w : World) (h1 : (w.cell? a).isSome = true) (h2 : w.frozen? a = false) : (store a (.func fn f c)).run Try.prog w = .ok () (w.setCell a (.func fn f c)) := by
  obtain ⟨u, hu⟩ := Option.isSome_iff_exists.1 h1
  rw [run_store _ _ _ _ _ rfl, hu]
  simp [h2]
attribute [local go_sem] store_func
def set13 (w : World) (b : Nat) (v0 v1 v2 v3 v4 v5 v6 v7 v8 v9 v10 v11 v12 : Value) : World := (((((((((((((w.setCell ⟨b, 0, none⟩ v0).setCell ⟨b, 1, none⟩ v1).setCell ⟨b, 2, none⟩ v2).setCell ⟨b, 3, none⟩ v3).setCell ⟨b, 4, none⟩ v4).setCell ⟨b, 5, none⟩ v5).setCell ⟨b, 6, none⟩ v6).setCell ⟨b, 7, none⟩ v7).setCell ⟨b, 8, none⟩ v8).setCell ⟨b, 9, none⟩ v9).setCell ⟨b, 10, none⟩ v10).setCell ⟨b, 11, none⟩ v11).setCell ⟨b, 12, none⟩ v12)
theorem set13_only (w : World) (b : Nat) (v0 v1 v2 v3 v4 v5 v6 v7 v8 v9 v10 v11 v12 : Value) : Only (fun x => x = b) w (set13 w b v0 v1 v2 v3 v4 v5 v6 v7 v8 v9 v10 v11 v12) := by
  unfold set13
  have h := fun (o : Nat) (v : Value) {W : World} (k : Only (fun x => x = b) w W) => Only.set (P := fun x => x = b) k b o v rfl
  exact (h 12 v12 (h 11 v11 (h 10 v10 (h 9 v9 (h 8 v8 (h 7 v7 (h 6 v6 (h 5 v5 (h 4 v4 (h 3 v3 (h 2 v2 (h 1 v1 (h 0 v0 (Only.refl _ _))))))))))))))
structure ActsIs (w : World) (e : Ending) (w' : World) : Prop where
  ex : ∃ k0 k1 k2, e = .returned (.agg (actA k0 k1 k2)) ∧ w'.cell? ⟨k0, 0, none⟩ = some (.int .i64 0) ∧ w'.cell? ⟨k1, 0, none⟩ = some (.int .i64 1) ∧ w'.cell? ⟨k2, 0, none⟩ = some (.int .i64 2)
  bel : Below w.heap.size w w'
set_option maxRecDepth 100000 in
set_option maxHeartbeats 4000000 in
theorem actions_any (w : World) : Calls Try.prog 169 #[] w (ActsIs w) := by
  go_enter Try.func169, Try.ntmps169
  go_wp2_with fail
  refine (logging_fn _ _).mono ?_
  rintro e w' ⟨rfl, rfl⟩
  go_wp2_with fail
  refine (logging_fn _ _).mono ?_
  rintro e w' ⟨rfl, rfl⟩
  go_wp2_with fail
  refine (logging_fn _ _).mono ?_
  rintro e w' ⟨rfl, rfl⟩
  have hY : ((((w.alloc (.cells #[.nilFunc, .nilFunc, .nilFunc, .nilFunc, .nilFunc, .nilFunc, .nilFunc, .nilFunc, .nilFunc, .nilFunc, .nilFunc, .nilFunc, .nilFunc] 225)).alloc (.cells #[.int .i64 0] 3)).alloc (.cells #[.int .i64 1] 3)).alloc (.cells #[.int .i64 2] 3)).heap[w.heap.size]? = some (.cells #[.nilFunc, .nilFunc, .nilFunc, .nilFunc, .nilFunc, .nilFunc, .nilFunc, .nilFunc, .nilFunc, .nilFunc, .nilFunc, .nilFunc, .nilFunc] 225) := blk_old (blk_old (blk_old (blk_new w _ _ rfl) _) _) _
  have k0 : ((((w.alloc (.cells #[.nilFunc, .nilFunc, .nilFunc, .nilFunc, .nilFunc, .nilFunc, .nilFunc, .nilFunc, .nilFunc, .nilFunc, .nilFunc, .nilFunc, .nilFunc] 225)).alloc (.cells #[.int .i64 0] 3)).alloc (.cells #[.int .i64 1] 3)).alloc (.cells #[.int .i64 2] 3)).cell? ⟨w.heap.size + 1, 0, none⟩ = some (.int .i64 0) := cellOn _ (cellOn _ (cN (w.heap.size + 1) (by simp) rfl))
  have k1 : ((((w.alloc (.cells #[.nilFunc, .nilFunc, .nilFunc, .nilFunc, .nilFunc, .nilFunc, .nilFunc, .nilFunc, .nilFunc, .nilFunc, .nilFunc, .nilFunc, .nilFunc] 225)).alloc (.cells #[.int .i64 0] 3)).alloc (.cells #[.int .i64 1] 3)).alloc (.cells #[.int .i64 2] 3)).cell? ⟨w.heap.size + 1 + 1, 0, none⟩ = some (.int .i64 1) := cellOn _ (cN (w.heap.size + 1 + 1) (by simp) rfl)
  have k2 : ((((w.alloc (.cells #[.nilFunc, .nilFunc, .nilFunc, .nilFunc, .nilFunc, .nilFunc, .nilFunc, .nilFunc, .nilFunc, .nilFunc, .nilFunc, .nilFunc, .nilFunc] 225)).alloc (.cells #[.int .i64 0] 3)).alloc (.cells #[.int .i64 1] 3)).alloc (.cells #[.int .i64 2] 3)).cell? ⟨w.heap.size + 1 + 1 + 1, 0, none⟩ = some (.int .i64 2) := cN (w.heap.size + 1 + 1 + 1) (by simp) rfl
  have HBY : Hid (Below w.heap.size w ((((w.alloc (.cells #[.nilFunc, .nilFunc, .nilFunc, .nilFunc, .nilFunc, .nilFunc, .nilFunc, .nilFunc, .nilFunc, .nilFunc, .nilFunc, .nilFunc, .nilFunc] 225)).alloc (.cells #[.int .i64 0] 3)).alloc (.cells #[.int .i64 1] 3)).alloc (.cells #[.int .i64 2] 3))) := bel_tr (bel3 w _ _ _) (bel1 _ _)
  simp only [World.size_alloc]
  generalize (((w.alloc (.cells #[.nilFunc, .nilFunc, .nilFunc, .nilFunc, .nilFunc, .nilFunc, .nilFunc, .nilFunc, .nilFunc, .nilFunc, .nilFunc, .nilFunc, .nilFunc] 225)).alloc (.cells #[.int .i64 0] 3)).alloc (.cells #[.int .i64 1] 3)).alloc (.cells #[.int .i64 2] 3) = Y at *
  have x0 := blk_cell (j := 0) hY rfl
  have g0 := blk_frz (j := 0) hY
  have x1 := blk_cell (j := 1) hY rfl
  have g1 := blk_frz (j := 1) hY
  have x2 := blk_cell (j := 2) hY rfl
  have g2 := blk_frz (j := 2) hY
  have x3 := blk_cell (j := 3) hY rfl
  have g3 := blk_frz (j := 3) hY
  have x4 := blk_cell (j := 4) hY rfl
  have g4 := blk_frz (j := 4) hY
  have x5 := blk_cell (j := 5) hY rfl
  have g5 := blk_frz (j := 5) hY
  have x6 := blk_cell (j := 6) hY rfl
  have g6 := blk_frz (j := 6) hY
  have x7 := blk_cell (j := 7) hY rfl
  have g7 := blk_frz (j := 7) hY
  have x8 := blk_cell (j := 8) hY rfl
  have g8 := blk_frz (j := 8) hY
  have x9 := blk_cell (j := 9) hY rfl
  have g9 := blk_frz (j := 9) hY
  have x10 := blk_cell (j := 10) hY rfl
  have g10 := blk_frz (j := 10) hY
  have x11 := blk_cell (j := 11) hY rfl
  have g11 := blk_frz (j := 11) hY
  have x12 := blk_cell (j := 12) hY rfl
  have g12 := blk_frz (j := 12) hY
  have ly : w.heap.size < Y.heap.size := lt_of_cell x0
  have HK := trivial
  have HFIN : Hid (∀ W', Only (fun x => x = w.heap.size) Y W' → ActsIs w (.returned (.agg (actA (w.heap.size + 1) (w.heap.size + 1 + 1) (w.heap.size + 1 + 1 + 1)))) W') := fun W' ho =>
    ⟨⟨_, _, _, rfl, (World.cell?_of_block (a := ⟨w.heap.size + 1, 0, none⟩) (ho.block (w.heap.size + 1) (by omega))).trans k0, (World.cell?_of_block (a := ⟨w.heap.size + 1 + 1, 0, none⟩) (ho.block (w.heap.size + 1 + 1) (by omega))).trans k1, (World.cell?_of_block (a := ⟨w.heap.size + 1 + 1 + 1, 0, none⟩) (ho.block (w.heap.size + 1 + 1 + 1) (by omega))).trans k2⟩,
      ⟨ho.os.trans HBY.out.os, ho.tape.trans HBY.out.tape, ho.output.trans HBY.out.output, by rw [ho.size]; exact HBY.out.size, fun x hx => (ho.block x (by omega)).trans (HBY.out.block x hx)⟩⟩
  clear hY k0 k1 k2 HK
  go_wp2
  refine bodyPost_ret (v := .agg (actA (w.heap.size + 1) (w.heap.size + 1 + 1) (w.heap.size + 1 + 1 + 1))) ?_ rfl ?_
  · unfold actA fnV logV
    simp [results, Try.f169, go_sem, *]
  · exact HFIN.out _ (set13_only _ _ _ _ _ _ _ _ _ _ _ _ _ _ _)

/-! ### The checks -/
set_option maxHeartbeats 1000000 in
theorem within_any (fuel most : Int) (w : World) : Calls Try.prog 105 #[.int .i64 fuel, .int .i64 most] w (Tells (decide (0 ≤ fuel ∧ fuel ≤ 50000 ∧ 0 ≤ most ∧ most ≤ 1000)) w) := by
  by_cases h1 : 0 ≤ fuel
  · by_cases h2 : fuel ≤ 50000
    · by_cases h3 : 0 ≤ most
      · by_cases h4 : most ≤ 1000
        · go_enter Try.func105, Try.ntmps105
          go_wp2
          go_ret
          exact ⟨by simp [h1, h2, h3, h4], rfl⟩
        · go_enter Try.func105, Try.ntmps105
          go_wp2
          go_ret
          exact ⟨by simp; omega, rfl⟩
      · go_enter Try.func105, Try.ntmps105
        go_wp2
        go_ret
        exact ⟨by simp; omega, rfl⟩
    · go_enter Try.func105, Try.ntmps105
      go_wp2
      go_ret
      exact ⟨by simp; omega, rfl⟩
  · go_enter Try.func105, Try.ntmps105
    go_wp2
    go_ret
    exact ⟨by simp; omega, rfl⟩
set_option maxHeartbeats 1000000 in
theorem long_any (kd arg to : Int) (sa : Option Addr) (sl sc : Nat) (w : World) (hs : sl ≤ 1048576) : Calls Try.prog 107 #[.agg #[.int .i64 kd, .int .i64 arg, .int .i64 to, .slice sa sl sc]] w (TellsB (decide (512 < sl)) w) := by
  by_cases h : 512 < sl
  · have h' : (512 : Int) < (sl : Int) := by omega
    go_enter Try.func107, Try.ntmps107
    go_wp2
    go_ret
    exact ⟨by simp [h], bel1 w _⟩
  · have h' : ¬ (512 : Int) < (sl : Int) := by omega
    go_enter Try.func107, Try.ntmps107
    go_wp2
    go_ret
    exact ⟨by simp [h], bel1 w _⟩
/-- Where a long set stands first, or -1. -/
def IdxIs (n : Nat) (R : Nat → InsD) (w : World) (e : Ending) (w' : World) : Prop := (∃ r : Int, e = .returned (.int .i64 r) ∧ (0 ≤ r ↔ ∃ i, i < n ∧ 512 < (R i).sl) ∧ -1 ≤ r ∧ r ≤ 1048576) ∧ Below w.heap.size w w'
def idI (w : World) (n : Nat) (R : Nat → InsD) (iv : Value) (wr : World) : Prop := ∃ k : Nat, k ≤ n ∧ iv = .int .i64 (k : Int) ∧ (∀ i, i < k → ¬ 512 < (R i).sl) ∧ Below w.heap.size w wr
set_option maxRecDepth 100000 in
set_option maxHeartbeats 4000000 in
theorem index_any (Q : Nat → Prop) (a : Option Addr) (n c : Nat) (R : Nat → InsD) (w : World) (hA : InsA Q w a n R) (hn : n ≤ 1048576) (hs : ∀ i, i < n → (R i).sl ≤ 1048576) :
    Calls Try.prog 168 #[.slice a n c, .func (.func 107) #[] #[]] w (IdxIs n R w) := by
  have HA : Hid (InsA Q w a n R) := hA
  have HS : Hid (∀ i, i < n → (R i).sl ≤ 1048576) := hs
  clear hA hs
  go_enter Try.func168, Try.ntmps168
  go_wp2
  go_loopw [8] (fun iv wr => idI w n R iv wr) (fun iv _ => n - (intOf iv).toNat)
  case atStart => exact ⟨0, Nat.zero_le _, rfl, fun i hi => absurd hi (Nat.not_lt_zero _), Below.refl _ _⟩
  case round =>
    obtain ⟨k, hk, rfl, hall, hb⟩ := hrel
    have HALL : Hid (∀ i, i < k → ¬ 512 < (R i).sl) := hall
    have HB : Hid (Below w.heap.size w wr) := hb
    by_cases hlt : k < n
    · have hA := HA.out.later hb
      rcases hA with h0 | ⟨b, off, rfl, hq, hA⟩
      · omega
      obtain ⟨c0, c1, c2, sa, sc, c3, hst⟩ := hA k hlt
      have lb := lt_of_cell c0
      have hlt' : (k : Int) < (n : Int) := by omega
      have hsl := HS.out k hlt
      obtain ⟨sl, hsl2⟩ : ∃ sl, (R k).sl = sl := ⟨_, rfl⟩
      have HSL : Hid ((R k).sl = sl) := hsl2
      rw [hsl2] at c3 hsl
      clear hA hst hall hb hsl2
      by_cases hbig : 512 < sl
      · have hd : decide (512 < sl) = true := by simp [hbig]
        have HBIG : Hid (512 < sl) := hbig
        clear hbig
        go_wp2_with (go_at_call 107; refine (long_any _ _ _ sa sl sc _ hsl).mono ?_; rintro e W ⟨rfl, hb2⟩; have HB2 : Hid _ := hb2; clear hb2)
        go_ret
        exact ⟨⟨(k : Int), rfl, ⟨fun _ => ⟨k, hlt, by rw [HSL.out]; exact HBIG.out⟩, fun _ => by omega⟩, by omega, by omega⟩, bel_tr HB.out HB2.out⟩
      · have hd : decide (512 < sl) = false := by simp [hbig]
        have HBIG : Hid (¬ 512 < sl) := hbig
        clear hbig
        go_wp2_with (go_at_call 107; refine (long_any _ _ _ sa sl sc _ hsl).mono ?_; rintro e W ⟨rfl, hb2⟩; have HB2 : Hid _ := hb2; clear hb2)
        go_roundw
        case rel => exact ⟨k + 1, by omega, by go_num, all_snoc HALL.out (by rw [HSL.out]; exact HBIG.out), bel_tr HB.out HB2.out⟩
        case measure => simp [intOf]; omega
    · obtain rfl : k = n := by omega
      clear hall hb
      go_wp2
      go_ret
      exact ⟨⟨-1, rfl, ⟨fun h => by omega, fun ⟨i, hi, h⟩ => absurd h (HALL.out i hi)⟩, by omega, by omega⟩, HB.out⟩
set_option maxHeartbeats 1000000 in
theorem contains_any (Q : Nat → Prop) (a : Option Addr) (n c : Nat) (R : Nat → InsD) (w : World) (hA : InsA Q w a n R) (hn : n ≤ 1048576) (hs : ∀ i, i < n → (R i).sl ≤ 1048576) :
    Calls Try.prog 106 #[.slice a n c, .func (.func 107) #[] #[]] w (SaysB (∃ i, i < n ∧ 512 < (R i).sl) w) := by
  have HA : Hid (InsA Q w a n R) := hA
  have HS : Hid (∀ i, i < n → (R i).sl ≤ 1048576) := hs
  clear hA hs
  go_enter Try.func106, Try.ntmps106
  go_wp2_with fail
  refine (index_any Q a n c R _ HA.out hn HS.out).mono ?_
  rintro e W ⟨⟨r, rfl, hr, h1, h2⟩, hb⟩
  have HR : Hid (0 ≤ r ↔ ∃ i, i < n ∧ 512 < (R i).sl) := hr
  have HB : Hid (Below w.heap.size w W) := hb
  clear hr hb
  by_cases h0 : 0 ≤ r
  · go_wp2
    go_ret
    exact ⟨⟨true, rfl, iffT (HR.out.1 h0)⟩, HB.out⟩
  · have hd : decide (0 ≤ r) = false := by simp; omega
    go_wp2
    go_ret
    exact ⟨⟨false, by rw [← hd]; rfl, iffF (fun q => by have := HR.out.2 q; omega)⟩, HB.out⟩

end Go.Proofs.Ytcmcbemcfjbchab
