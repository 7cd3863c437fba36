/-
  Walks: the library's bytes.Repeat at one blank.
-/
import Derived.Test.YtkgopipejgcbiaaDoorShelf
import Derived.Test.YtkgopipejgcbiaaDoorCopy
import Derived.Test.YtkgopipejgcbiaaDoorIter
import Derived.Laws.CopyOwn
import Derived.Lib.MakeNoZero
import Derived.Deep.RegionLaw
namespace Go.Proofs.YtkgopipejgcbiaaDoor
open Go.RowKit
set_option linter.unusedVariables false

theorem Tryd.size5 : (Tryd.prog.info? 5).map (·.size) = some 1 := by kernel_rfl

/-- The block g is a row of at least c bytes, the first k of them blanks. -/
def Blank (w : World) (g c k : Nat) : Prop := ∃ cur : List Value, w.heap[g]? = some (.cells cur.toArray 5 (0, 0)) ∧ c ≤ cur.length ∧ ∀ i, i < k → cur[i]? = some (.int .u8 32)

theorem Blank.cell {w : World} {g c k i : Nat} (h : Blank w g c k) (hi : i < k) : w.cell? ⟨g, i, none⟩ = some (.int .u8 32) := by
  obtain ⟨cur, h1, h2, h3⟩ := h
  simp only [World.cell?, h1]
  simpa using h3 i hi

theorem mul_one (c : Nat) (w : World) (h : c ≤ 1048576) : Calls Tryd.prog 22 #[.int .u64 1, .int .u64 c] w fun e w' => e = .returned (.tuple #[.int .u64 0, .int .u64 c]) ∧ w = w' := by
  refine (Tryd.bits_Mul 1 c (by omega) (by omega) w).mono ?_
  rintro e w' ⟨rfl, rfl⟩
  refine ⟨?_, rfl⟩
  have e1 : 1 * c / 18446744073709551616 = 0 := by omega
  have e2 : 1 * c % 18446744073709551616 = c := by omega
  rw [e1, e2]
  rfl

theorem blank_first {w : World} {g c : Nat} {cs : List Value} (hg : w.heap[g]? = some (.cells (splice cs 0 [.int .u8 32]).toArray 5 (0, 0))) (hc : 1 ≤ cs.length) (hcs : c ≤ cs.length) : Blank w g c 1 := by
  refine ⟨_, hg, by rw [length_splice _ _ _ (by simpa using hc)]; exact hcs, fun i hi => ?_⟩
  obtain rfl : i = 0 := by omega
  simp [splice]

theorem blank_more {w' : World} {g c k q : Nat} {cur : List Value} (hg : w'.heap[g]? = some (.cells (splice cur k (List.replicate q (.int .u8 32))).toArray 5 (0, 0))) (hcur : c ≤ cur.length) (hk : ∀ i, i < k → cur[i]? = some (.int .u8 32)) (hkq : k + q ≤ cur.length) : Blank w' g c (k + q) := by
  refine ⟨_, hg, by rw [length_splice _ _ _ (by simpa using hkq)]; exact hcur, fun i hi => ?_⟩
  unfold splice
  by_cases h1 : i < k
  · rw [List.getElem?_append_left (by simp; omega), List.getElem?_take, if_pos h1]
    exact hk i h1
  · have hl : (List.take k cur).length = k := by simp; omega
    rw [List.getElem?_append_right (by omega), hl, List.getElem?_append_left (by simp; omega), List.getElem?_replicate, if_pos (by omega)]

/-- A copy into a row that is known, from place k on, of cells that lie in memory: whatever the draws. -/
theorem copy_run {W : World} {g k dLen dCap sLen sCap : Nat} {ad : Addr} {cur xs : List Value} (hg : W.heap[g]? = some (.cells cur.toArray 5 (0, 0))) (hn : xs.length = Nat.min sLen dLen)
    (hsrc : ∀ j v, xs[j]? = some v → W.cell? (ad.add j) = some v) (hfit : k + xs.length ≤ cur.length) (h1 : ∀ v ∈ xs, v.oneCell' = true) {B : Nat} {w0 : World} (hb : Below B w0 W) (hBg : B ≤ g) :
    ∃ W', (Builtin.copy_ #[22, 22] 3 #[.slice (some ⟨g, k, none⟩) dLen dCap, .slice (some ad) sLen sCap]).run Tryd.prog W = .ok (.int .i64 xs.length) W' ∧ W'.heap[g]? = some (.cells (splice cur k xs).toArray 5 (0, 0)) ∧ Below B w0 W' := by
  refine ⟨_, run_copy_row (P := Tryd.prog) W 22 22 3 5 g k dLen dCap ad sLen sCap cur.toArray 5 xs Tryd.underlying22 Tryd.size5 hg hn hsrc (by simpa using hfit) h1, ?_, below_setRow hb hBg _⟩
  simpa [splice] using setRow_heap W g _ _ 5 _ hg

set_option maxRecDepth 100000 in
set_option maxHeartbeats 2000000 in
theorem repeat_any (gb c : Nat) (w : World) (hc : w.cell? ⟨gb, 0, none⟩ = some (.int .u8 32)) (hn : c ≤ 1048576) :
    Calls Tryd.prog 16 #[.slice (some ⟨gb, 0, none⟩) 1 1, .int .i64 c] w fun e w' => (∃ g cap, e = .returned (.slice (some ⟨g, 0, none⟩) c cap) ∧ Tx w' g 0 c (fun _ => 32)) ∧ Below w.heap.size w w' := by
  by_cases h0 : c = 0
  · subst h0
    go_enter Tryd.func16, Tryd.ntmps16
    go_wp2
    go_ret
    exact ⟨⟨_, _, rfl, fun i hi => by omega⟩, (Below.refl _ w).alloc (Nat.le_refl _) _⟩
  · have d0 : ((c : Int) == 0) = false := by simp [h0]
    have d1 : decide ((c : Int) < 0) = false := by simp
    have hcb : 1 ≤ c := by omega
    have hgl : gb < w.heap.size := lt_of_cell hc
    obtain ⟨cs, hrunM, hle, _⟩ := Lib.run_makeNoZero (P := Tryd.prog) w #[3] 22 5 Tryd.underlying22 c (by omega)
    have hcall : (callFunc 23 #[.int .i64 (c : Int)]).run Tryd.prog w = .ok (.value (.slice (some ⟨w.heap.size, 0, none⟩) c cs.size)) ((w.alloc (.cells cs 5)).drewN 2) := by
      rw [run_callFunc_extern Tryd.func23 (by kernel_rfl) (by kernel_rfl) (by kernel_rfl) (e := Extern.BytealgMakeNoZero.makeNoZero #[3] #[22]) (by kernel_rfl), hrunM]
      rfl
    clear hrunM
    have i0 : (0 : Int) ≤ (c : Int) := by omega
    have i1 : (c : Int) ≤ (cs.size : Int) := by omega
    have hcell2 : ((w.alloc (.cells cs 5)).drewN 2).cell? ⟨gb, 0, none⟩ = some (.int .u8 32) := cellOn _ hc
    have hrow : ((w.alloc (.cells cs 5)).drewN 2).heap[w.heap.size]? = some (.cells cs.toList.toArray 5 (0, 0)) := by
      have := World.alloc_heap_new w (.cells cs 5)
      simpa using this
    have hbel : Below w.heap.size w ((w.alloc (.cells cs 5)).drewN 2) := below_drewN ((Below.refl _ w).alloc (Nat.le_refl _) _) 2
    obtain ⟨W2, hcp, hg2, hb2⟩ := copy_run (k := 0) (dLen := c) (dCap := c) (sLen := 1) (sCap := 1) (ad := ⟨gb, 0, none⟩) (xs := [.int .u8 32]) hrow (Nat.min_eq_left hcb).symm (fun j v hj => by
      match j, hj with
      | 0, hj => simp at hj; subst hj; simpa [Addr.add] using hcell2
      | j + 1, hj => simp at hj) (by simp; omega) (by simp [Value.oneCell']) hbel (Nat.le_refl _)
    have hB1 : Blank W2 w.heap.size c 1 := blank_first hg2 (by simp; omega) (by simpa using hle)
    clear hg2 hrow hbel
    have RND : Hid (∀ (bp q r : Nat) (wr : World), bp < c → q ≤ bp → r = Nat.min q (c - bp) → Blank wr w.heap.size c bp → Below w.heap.size w wr → ∃ W3, (Builtin.copy_ #[22, 22] 3 #[.slice (some ⟨w.heap.size, bp, none⟩) (c - bp) (c - bp), .slice (some ⟨w.heap.size, 0, none⟩) q c]).run Tryd.prog wr = .ok (.int .i64 r) W3 ∧ Blank W3 w.heap.size c (bp + r) ∧ Below w.heap.size w W3) := by
      intro bp q r wr h2 h3 h4 hbl hbe
      have hmin : r ≤ c - bp := by rw [h4]; exact Nat.min_le_right _ _
      have hmin2 : r ≤ bp := by rw [h4]; exact Nat.le_trans (Nat.min_le_left _ _) h3
      obtain ⟨cur, k1, k2, k3⟩ := hbl
      obtain ⟨W3, r1, r2, r3⟩ := copy_run (k := bp) (dLen := c - bp) (dCap := c - bp) (sLen := q) (sCap := c) (ad := ⟨w.heap.size, 0, none⟩) (xs := List.replicate r (.int .u8 32)) k1 (by rw [List.length_replicate]; exact h4) (fun j v hj => by
        rw [List.getElem?_replicate] at hj
        split at hj
        · cases hj
          have e : (⟨w.heap.size, 0, none⟩ : Addr).add j = ⟨w.heap.size, j, none⟩ := by
            by_cases h0 : j = 0
            · subst h0; simp [Addr.add]
            · simp [Addr.add, h0]
          rw [e]
          exact Blank.cell ⟨cur, k1, k2, k3⟩ (by omega)
        · cases hj) (by rw [List.length_replicate]; omega) (by intro v hv; rw [List.eq_of_mem_replicate hv]; rfl) hbe (Nat.le_refl _)
      refine ⟨W3, by simpa using r1, blank_more r2 k2 k3 (by omega), r3⟩
    by_cases h8 : 8192 < c
    · go_enter Tryd.func16, Tryd.ntmps16
      go_wp2_with (first | (go_at_call 22; refine (mul_one c _ hn).mono ?_; rintro e w' ⟨rfl, rfl⟩))
      go_loopw [10] (fun b wr => ∃ bp : Nat, 1 ≤ bp ∧ bp ≤ c ∧ b = .int .i64 bp ∧ Blank wr w.heap.size c bp ∧ Below w.heap.size w wr) (fun b _ => c - (intOf b).toNat)
      case atStart => exact ⟨1, Nat.le_refl _, hcb, rfl, hB1, hb2⟩
      case round =>
        obtain ⟨bp, p1, p2, rfl, hbl, hbe⟩ := hrel
        by_cases hlt : bp < c
        · obtain ⟨q, hq⟩ : ∃ q, q = Nat.min bp 8192 := ⟨_, rfl⟩
          have q1 : q ≤ bp := by rw [hq]; exact Nat.min_le_left _ _
          have q2 : 1 ≤ q := by rw [hq]; exact Nat.le_min.2 ⟨p1, by omega⟩
          have qI : min (bp : Int) 8192 = (q : Int) := by
            have : q = min bp 8192 := hq
            omega
          obtain ⟨r, hr⟩ : ∃ r, r = Nat.min q (c - bp) := ⟨_, rfl⟩
          obtain ⟨W3, r1, r2, r3⟩ := RND.out bp q r wr.drew hlt q1 hr hbl hbe.drew
          have hr1 : 1 ≤ r := by rw [hr]; exact Nat.le_min.2 ⟨q2, by omega⟩
          have hr2 : r ≤ c - bp := by rw [hr]; exact Nat.min_le_right _ _
          have R2 : Hid _ := r2
          clear r2 hbl hq hr
          have hI : (bp : Int) < c := by omega
          go_wp2
          go_region
          go_wp2
          go_roundw
          case rel => exact ⟨bp + r, by omega, by omega, by go_num, R2.out, r3⟩
          case measure => simp [intOf]; omega
        · obtain rfl : bp = c := by omega
          go_wp2
          go_ret
          exact ⟨⟨_, _, rfl, fun i hi => by rw [Nat.zero_add]; exact hbl.cell hi⟩, hbe⟩
    · go_enter Tryd.func16, Tryd.ntmps16
      go_wp2_with (first | (go_at_call 22; refine (mul_one c _ hn).mono ?_; rintro e w' ⟨rfl, rfl⟩))
      go_loopw [10] (fun b wr => ∃ bp : Nat, 1 ≤ bp ∧ bp ≤ c ∧ b = .int .i64 bp ∧ Blank wr w.heap.size c bp ∧ Below w.heap.size w wr) (fun b _ => c - (intOf b).toNat)
      case atStart => exact ⟨1, Nat.le_refl _, hcb, rfl, hB1, hb2⟩
      case round =>
        obtain ⟨bp, p1, p2, rfl, hbl, hbe⟩ := hrel
        by_cases hlt : bp < c
        · obtain ⟨q, hq⟩ : ∃ q, q = Nat.min bp c := ⟨_, rfl⟩
          have q1 : q ≤ bp := by rw [hq]; exact Nat.min_le_left _ _
          have q2 : 1 ≤ q := by rw [hq]; exact Nat.le_min.2 ⟨p1, by omega⟩
          have qI : min (bp : Int) (c : Int) = (q : Int) := by
            have : q = min bp c := hq
            omega
          obtain ⟨r, hr⟩ : ∃ r, r = Nat.min q (c - bp) := ⟨_, rfl⟩
          obtain ⟨W3, r1, r2, r3⟩ := RND.out bp q r wr.drew hlt q1 hr hbl hbe.drew
          have hr1 : 1 ≤ r := by rw [hr]; exact Nat.le_min.2 ⟨q2, by omega⟩
          have hr2 : r ≤ c - bp := by rw [hr]; exact Nat.min_le_right _ _
          have R2 : Hid _ := r2
          clear r2 hbl hq hr
          have hI : (bp : Int) < c := by omega
          go_wp2
          go_region
          go_wp2
          go_roundw
          case rel => exact ⟨bp + r, by omega, by omega, by go_num, R2.out, r3⟩
          case measure => simp [intOf]; omega
        · obtain rfl : bp = c := by omega
          go_wp2
          go_ret
          exact ⟨⟨_, _, rfl, fun i hi => by rw [Nat.zero_add]; exact hbl.cell hi⟩, hbe⟩

end Go.Proofs.YtkgopipejgcbiaaDoor
