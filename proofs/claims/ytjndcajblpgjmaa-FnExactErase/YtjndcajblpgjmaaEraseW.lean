/-
  Walks: the program's Erase.
-/
import Derived.Test.YtjndcajblpgjmaaStep
import Derived.Deep.RegionLaw
namespace Go.Proofs.Ytjndcajblpgjmaa
open Go.RowKit
open M (OpD NodeD Gr)
set_option linter.unusedVariables false
set_option linter.unusedSimpArgs false

theorem enter70 (args : Array Value) (w : World) : (callFunc 70 args).run Try.prog w = .ok (.enter 70 args) w := by
  simp [callFunc, Try.func70, Try.f70, go_sem]
theorem enter71 (args : Array Value) (w : World) : (callFunc 71 args).run Try.prog w = .ok (.enter 71 args) w := by
  simp [callFunc, Try.func71, Try.f71, go_sem]

theorem era_end {w W0 wr : World} {g : Gr} {s : Nat → Seat} {v : Value} (l1 : w.heap.size + 1 < W0.heap.size) (B0 : Below w.heap.size w W0) (hV : M.Valid g)
    (own : OwnC (fun b => Free W0.heap.size s g.nr b ∧ b < wr.heap.size) wr v 2 g.nr (hdrs (fun i => erN (g.rule i)) s g.nr)) (seat : Seats W0.heap.size wr (fun i => erN (g.rule i)) s g.nr) (be : Below W0.heap.size W0 wr) (so : Soft W0 wr) (x y : Value) :
    EraseIs g w (.returned (.agg #[v, .slice none 0 0])) ((wr.setCell ⟨w.heap.size + 1, 0, none⟩ x).setCell ⟨w.heap.size + 1, 1, none⟩ y) := by
  have keep : ∀ b, W0.heap.size < b → ((wr.setCell ⟨w.heap.size + 1, 0, none⟩ x).setCell ⟨w.heap.size + 1, 1, none⟩ y).heap[b]? = wr.heap[b]? := fun b hb => by
    rw [Below.heap_setCell _ _ _ b (fun e => by simp only at e; omega), Below.heap_setCell _ _ _ b (fun e => by simp only at e; omega)]
  refine ⟨⟨v, rfl, .inl ⟨hV, s, W0.heap.size, B0.size, ?_, ?_, ?_⟩⟩, bel_set (bel_set (bel_tr B0 be) _ _ _ (by omega)) _ _ _ (by omega)⟩
  · rw [size_set, size_set]
    exact own.on (fun b hb => keep b hb.1.1)
  · exact seat.on' (by rw [size_set, size_set]; exact Nat.le_refl _) (fun b h1 _ _ => keep b h1)
  · intro b o h1 h2
    exact (so.set _ _).set _ _ b o h1 h2

set_option maxRecDepth 100000 in
set_option maxHeartbeats 4000000 in
theorem erase_any (Q : Nat → Prop) (ra la : Option Addr) (rc lc : Nat) (g : Gr) (w : World) (hG : GramA Q w ra la g) (hs : SmallG g) :
    Calls Try.prog 26 #[.agg #[.slice ra g.nr rc, .slice la g.nb lc]] w (EraseIs g w) := by
  have HG : Hid (GramA Q w ra la g) := hG
  have HS : Hid (SmallG g) := hs
  have h1 := hs.nr
  clear hG hs
  go_enter Try.func26, Try.ntmps26
  go_wp2_with fail
  refine (validGrammar_any Q ra la rc lc g _ (HG.out.later (bel2 w _ _)) HS.out).mono ?_
  rintro e W0 ⟨⟨r, rfl, hr⟩, hb⟩
  have hs0 := hb.size
  simp only [World.size_alloc] at hs0
  have x0 := cell_on (a := ⟨w.heap.size, 0, none⟩) (v := .slice ra g.nr rc) (cellOn _ (cN w.heap.size rfl rfl)) hb
  have y0 := cell_on (a := ⟨w.heap.size + 1, 0, none⟩) (v := .slice none 0 0) (cN (w.heap.size + 1) (by simp) rfl) hb
  have y1 := cell_on (a := ⟨w.heap.size + 1, 1, none⟩) (v := .slice none 0 0) (cN (w.heap.size + 1) (by simp) rfl) hb
  have B0 : Hid (Below w.heap.size w W0) := bel_tr (bel2 w _ _) hb
  have fy0 : W0.frozen? ⟨w.heap.size + 1, 0, none⟩ = false := by
    rw [hb.frozen (p := ⟨w.heap.size + 1, 0, none⟩) (by simp)]
    exact soft1 _ _ 36 (w.heap.size + 1) 0 (by simp) (by simp)
  have fy1 : W0.frozen? ⟨w.heap.size + 1, 1, none⟩ = false := by
    rw [hb.frozen (p := ⟨w.heap.size + 1, 1, none⟩) (by simp)]
    exact soft1 _ _ 36 (w.heap.size + 1) 1 (by simp) (by simp)
  clear hb
  cases r with
  | false =>
    have HV : Hid (¬ M.Valid g) := fun q => absurd (hr.2 q) (by decide)
    clear hr
    go_wp2
    refine bodyPost_ret (v := .agg #[.slice none 0 0, .slice none 0 0]) ?_ rfl ?_
    · simp [results, Try.f26, go_sem, *]
    · exact ⟨⟨_, rfl, .inr ⟨HV.out, rfl⟩⟩, bel_set (bel_set B0.out _ _ _ (by omega)) _ _ _ (by omega)⟩
  | true =>
    have HV : Hid (M.Valid g) := hr.1 rfl
    clear hr
    have l1 : w.heap.size + 1 < W0.heap.size := by omega
    have l0 : w.heap.size < W0.heap.size := by omega
    go_wp2
    go_loopw [13] (fun i wr => eraI W0 (fun i => erN (g.rule i)) g.nr i wr) (fun i _ => g.nr - (intOf i).toNat)
    case atStart =>
      refine ⟨0, .slice none 0 0, fun _ => default, Nat.zero_le _, rfl, cN W0.heap.size rfl rfl, cN W0.heap.size rfl rfl, .inl ⟨rfl, rfl, rfl⟩, ⟨fun i hi => absurd hi (Nat.not_lt_zero _), fun i j _ hj => absurd hj (Nat.not_lt_zero _), fun i hi => absurd hi (Nat.not_lt_zero _), fun i hi => absurd hi (Nat.not_lt_zero _)⟩, bel1 W0 _, soft1 W0 _ 36, by simp⟩
    case round =>
      obtain ⟨k, v, s, hk, rfl, v0, v1, hown, hseat, hbel, hsoft, hsz⟩ := hrel
      obtain ⟨av, cv, rfl⟩ := hown.shape
      have g0 : wr.cell? ⟨w.heap.size, 0, none⟩ = some (.slice ra g.nr rc) := cell_on x0 hbel
      have q0 : wr.cell? ⟨w.heap.size + 1, 0, none⟩ = some (.slice none 0 0) := cell_on y0 hbel
      have q1 : wr.cell? ⟨w.heap.size + 1, 1, none⟩ = some (.slice none 0 0) := cell_on y1 hbel
      have fq0 : wr.frozen? ⟨w.heap.size + 1, 0, none⟩ = false := (hbel.frozen (p := ⟨w.heap.size + 1, 0, none⟩) l1).trans fy0
      have fq1 : wr.frozen? ⟨w.heap.size + 1, 1, none⟩ = false := (hbel.frozen (p := ⟨w.heap.size + 1, 1, none⟩) l1).trans fy1
      by_cases hlt : k < g.nr
      · have hR := HG.out.rules.later (bel_tr B0.out hbel)
        rcases hR with h0 | ⟨b, off, rfl, hq, hR⟩
        · omega
        obtain ⟨⟨na, nc, c0, hn⟩, ⟨ba, bc, c1, hb⟩⟩ := hR k hlt
        have hbl : b < wr.heap.size := lt_of_cell c0
        have HN : Hid (Ints Q .u8 wr na (g.rule k).nl (g.rule k).name) := hn
        have HO : Hid (OpsA Q wr ba (g.rule k).bl (g.rule k).body) := hb
        have HSN : Hid (SmallN (g.rule k)) := HS.out.rule k hlt
        have HOWN : Hid (OwnC (fun b => Free W0.heap.size s k b ∧ b < wr.heap.size) wr (.slice av k cv) 2 k (hdrs (fun i => erN (g.rule i)) s k)) := hown
        have HSEAT : Hid (Seats W0.heap.size wr (fun i => erN (g.rule i)) s k) := hseat
        have HBE : Hid (Below W0.heap.size W0 wr) := hbel
        have HSO : Hid (Soft W0 wr) := hsoft
        have hlt' : (k : Int) < (g.nr : Int) := by omega
        have fv : wr.frozen? ⟨W0.heap.size, 0, none⟩ = false := hsoft W0.heap.size 0 (Nat.le_refl _) hsz
        clear hR hn hb hown hseat hbel hsoft x0 y0 y1 fy0 fy1
        have hX : Hid ((wr.alloc (.cells #[.slice na (g.rule k).nl nc, .slice ba (g.rule k).bl bc] 76)).heap.size = wr.heap.size + 1) := by show _ = _; simp
        have bX : Hid (Below wr.heap.size wr (wr.alloc (.cells #[.slice na (g.rule k).nl nc, .slice ba (g.rule k).bl bc] 76))) := bel1 wr _
        have sX : Hid (Soft wr (wr.alloc (.cells #[.slice na (g.rule k).nl nc, .slice ba (g.rule k).bl bc] 76))) := soft1 wr _ 76
        have m0 : (wr.alloc (.cells #[.slice na (g.rule k).nl nc, .slice ba (g.rule k).bl bc] 76)).cell? ⟨wr.heap.size, 0, none⟩ = some (.slice na (g.rule k).nl nc) := cN (W := wr) wr.heap.size rfl rfl
        have m1 : (wr.alloc (.cells #[.slice na (g.rule k).nl nc, .slice ba (g.rule k).bl bc] 76)).cell? ⟨wr.heap.size, 1, none⟩ = some (.slice ba (g.rule k).bl bc) := cN (W := wr) wr.heap.size rfl rfl
        have mv : (wr.alloc (.cells #[.slice na (g.rule k).nl nc, .slice ba (g.rule k).bl bc] 76)).cell? ⟨W0.heap.size, 0, none⟩ = some (.slice av k cv) := cellOn _ v0
        go_wp2_with fail
        generalize wr.alloc (.cells #[.slice na (g.rule k).nl nc, .slice ba (g.rule k).bl bc] 76) = X at *
        go_region_law (first
          | (refine stepCall enter70 rfl (.tmp 20) 22 rfl (y := .slice na (g.rule k).nl nc) (by simp [Act.eval, Act.put]) ((bytesClone_any Q na (g.rule k).nl nc (g.rule k).name X.drew (HN.out.later bX.out.drew) HSN.out.name).mono ?_)
             rintro e W1 ⟨⟨na', nc', rfl, hI1⟩, hb1, hso1⟩
             have z0 : W1.cell? ⟨wr.heap.size, 0, none⟩ = some (.slice na (g.rule k).nl nc) := cell_on (w := X.drew) m0 hb1
             have z1 : W1.cell? ⟨wr.heap.size, 1, none⟩ = some (.slice ba (g.rule k).bl bc) := cell_on (w := X.drew) m1 hb1
             have v01 : W1.cell? ⟨W0.heap.size, 0, none⟩ = some (.slice av k cv) := cell_on (w := X.drew) mv hb1
             have HI1 : Hid (Ints (New X.drew W1) .u8 W1 na' (g.rule k).nl (g.rule k).name) := hI1
             have HB1 : Hid (Below X.drew.heap.size X.drew W1) := hb1
             have HSO1 : Hid (Soft X.drew W1) := hso1
             clear hI1 hb1 hso1
             refine ⟨_, rfl, ?_⟩)
          | (refine stepCall enter71 rfl (.tmp 23) 74 rfl (y := .slice ba (g.rule k).bl bc) (by simp [Act.eval, Act.put]) ((eraseBody_any Q ba (g.rule k).bl bc (g.rule k).body W1 (HO.out.later (bel_tr bX.out.drew HB1.out)) HSN.out.body).mono ?_)
             rintro e W2 ⟨⟨ba', bc', rfl, hO2⟩, hb2, hso2⟩
             have v02 : W2.cell? ⟨W0.heap.size, 0, none⟩ = some (.slice av k cv) := cell_on v01 hb2
             have p2 : Hid (Below wr.heap.size wr W2) := bel_tr (bel_tr bX.out.drew HB1.out) hb2
             have lt2 : W0.heap.size < W2.heap.size := lt_of_cell v02
             have HO2 : Hid (OpsO W1.heap.size W2.heap.size W2 ba' (g.rule k).bl (fun i => er ((g.rule k).body i))) := hO2
             have HB2 : Hid (Below W1.heap.size W1 W2) := hb2
             have HSO2 : Hid (Soft W1 W2) := hso2
             clear hO2 hb2 hso2
             refine ⟨_, rfl, ?_⟩)
          | (refine stepC rfl (.tmp 18) (.tmp 26) 33 33 rfl (v := .slice av k cv) (y := .slice (some ⟨W2.heap.size, 0, none⟩) 1 1) (by simp [Act.eval, Act.put]) (by simp [Act.eval, Act.put]) elem33 (own_later HOWN.out (bel_tr p2.out (bel1 W2 (.cells #[.slice na' (g.rule k).nl nc', .slice ba' (g.rule k).bl bc'] 76)))) (src_two (u0 := .slice na' (g.rule k).nl nc') (u1 := .slice ba' (g.rule k).bl bc') (cN W2.heap.size rfl rfl) (cN W2.heap.size rfl rfl) rfl rfl) (by omega) (fun _ => Nat.one_pos) ?_
             intro v' W4 hown4 hgrew4 hsz4
             obtain ⟨a4, c4, rfl⟩ := hown4.shape
             have v04 : W4.cell? ⟨W0.heap.size, 0, none⟩ = some (.slice av k cv) := (World.cell?_of_block (a := ⟨W0.heap.size, 0, none⟩) (hgrew4.block W0.heap.size (by simp; omega) (fun h => Nat.lt_irrefl _ h.1.1))).trans (cellOn _ v02)
             have fv4 : W4.frozen? ⟨W0.heap.size, 0, none⟩ = false := (hgrew4.frozen W0.heap.size 0 (by simp; omega)).trans ((World.frozen?_of_block (a := ⟨W0.heap.size, 0, none⟩) (Below.heap_alloc W2 _ _ lt2)).trans ((p2.out.frozen (p := ⟨W0.heap.size, 0, none⟩) hsz).trans fv))
             have HE : Hid (eraI W0 (fun i => erN (g.rule i)) g.nr (.int .i64 ((k + 1 : Nat) : Int)) (W4.setCell ⟨W0.heap.size, 0, none⟩ (.slice a4 (k + 1) c4))) := era_step hlt hsz v0 v1 HSEAT.out HBE.out HSO.out bX.out.drew sX.out hX.out HI1.out HB1.out HSO1.out HO2.out HB2.out HSO2.out hown4 hgrew4
             clear hown4 hgrew4 hsz4))
        all_goals go_goals
        all_goals go_wp2
        all_goals go_roundw
        all_goals first | exact HE.out | (simp [intOf]; omega)
      · obtain rfl : k = g.nr := by omega
        have HOWN : Hid (OwnC (fun b => Free W0.heap.size s g.nr b ∧ b < wr.heap.size) wr (.slice av g.nr cv) 2 g.nr (hdrs (fun i => erN (g.rule i)) s g.nr)) := hown
        have HSEAT : Hid (Seats W0.heap.size wr (fun i => erN (g.rule i)) s g.nr) := hseat
        have HBE : Hid (Below W0.heap.size W0 wr) := hbel
        have HSO : Hid (Soft W0 wr) := hsoft
        clear hown hseat hbel hsoft x0 y0 y1 fy0 fy1
        go_wp2
        refine bodyPost_ret (v := .agg #[.slice av g.nr cv, .slice none 0 0]) ?_ rfl ?_
        · simp [results, Try.f26, go_sem, *]
        · exact era_end l1 B0.out HV.out HOWN.out HSEAT.out HBE.out HSO.out _ _

end Go.Proofs.Ytjndcajblpgjmaa
