/-
  Walks: the specification's Erase.
-/
import Derived.Test.YtjndcajblpgjmaaSEraP
import Derived.Test.YtjndcajblpgjmaaSValid
namespace Go.Proofs.Ytjndcajblpgjmaa
open Go.RowKit
open M (OpD NodeD Gr)
set_option linter.unusedVariables false
set_option linter.unusedSimpArgs false

/-- What the specification's Erase answers. -/
structure SErIs (g : Gr) (w : World) (e : Ending) (w' : World) : Prop where
  val : ∃ v, e = .returned (.agg #[v, .slice none 0 0]) ∧ ((M.Valid g ∧ ∃ a c, v = .slice a g.nr c ∧ RulesA (New w w') w' a g.nr (fun i => erN (g.rule i))) ∨ (¬ M.Valid g ∧ v = .slice none 0 0))
  bel : Below w.heap.size w w'

theorem ser_end {w W0 wr : World} {g : Gr} {Qp : Nat → Prop} {s : Nat → Seat} {v : Value} (l1 : w.heap.size + 1 < W0.heap.size) (B0 : Below w.heap.size w W0) (hV : M.Valid g) (h : CpR W0 wr (fun i => erN (g.rule i)) g.nr v Qp s) (x y : Value) :
    SErIs g w (.returned (.agg #[v, .slice none 0 0])) ((wr.setCell ⟨w.heap.size + 1, 0, none⟩ x).setCell ⟨w.heap.size + 1, 1, none⟩ y) := by
  have keep : ∀ b, W0.heap.size < b → ((wr.setCell ⟨w.heap.size + 1, 0, none⟩ x).setCell ⟨w.heap.size + 1, 1, none⟩ y).heap[b]? = wr.heap[b]? := fun b hb => by
    rw [Below.heap_setCell _ _ _ b (fun e => by simp only at e; omega), Below.heap_setCell _ _ _ b (fun e => by simp only at e; omega)]
  obtain ⟨a, c, rfl⟩ := h.own.shape
  refine ⟨⟨_, rfl, .inl ⟨hV, a, c, rfl, ?_⟩⟩, bel_set (bel_set (bel_tr B0 h.bel) _ _ _ (by omega)) _ _ _ (by omega)⟩
  rcases h.own with ⟨_, q, _⟩ | ⟨b, cap, e, hq, hl, hc, hcs, hwr⟩
  · exact .inl q
  injection e with e1 e2 e3
  subst e1
  have hQ : ∀ x', W0.heap.size < x' ∧ x' < wr.heap.size → New w ((wr.setCell ⟨w.heap.size + 1, 0, none⟩ x).setCell ⟨w.heap.size + 1, 1, none⟩ y) x' := fun x' hx => ⟨by omega, by rw [size_set, size_set]; exact hx.2⟩
  have hlen := hdrs_len (fun i => erN (g.rule i)) s g.nr
  refine .inr ⟨b, 0, rfl, hQ b hq.1, fun i hi => ?_⟩
  obtain ⟨g0, g1⟩ := hdrs_get (fun i => erN (g.rule i)) s g.nr i hi
  rw [Nat.zero_add]
  refine ⟨⟨(s i).na, (s i).nc, ?_, ?_⟩, ⟨(s i).ba, (s i).bc, ?_, ?_⟩⟩
  · rw [World.cell?_of_block (a := ⟨b, i * 2, none⟩) (keep b hq.1.1)]; exact (hcs _ (by omega)).trans g0
  · exact ((h.nm i hi).on (fun x' hx => keep x' (h.new x' hx).1)).wide (fun x' hx => hQ x' (h.new x' hx))
  · rw [World.cell?_of_block (a := ⟨b, i * 2 + 1, none⟩) (keep b hq.1.1)]; exact (hcs _ (by omega)).trans g1
  · exact ((h.bd i hi).on (fun x' hx => keep x' (h.new x' hx).1)).wide (fun x' hx => hQ x' (h.new x' hx))

def sinI (W : World) (n : Nat) (B : Nat → OpD) (v : Value) (i : Value) (wr : World) : Prop :=
  ∃ (m : Nat) (Qs : Nat → Prop) (f : Nat → Option Addr × Nat), m ≤ n ∧ i = .int .i64 (m : Int) ∧ CpB W wr (erB B m) n v Qs f

set_option maxRecDepth 100000 in
set_option maxHeartbeats 4000000 in
theorem serase_any (Q : Nat → Prop) (ra la : Option Addr) (rc lc : Nat) (g : Gr) (w : World) (hG : GramA Q w ra la g) (hs : SmallG g) :
    Calls Try.prog 25 #[.agg #[.slice ra g.nr rc, .slice la g.nb lc]] w (SErIs g w) := by
  have HG : Hid (GramA Q w ra la g) := hG
  have HS : Hid (SmallG g) := hs
  have h1 := hs.nr
  clear hG hs
  go_enter Try.func25, Try.ntmps25
  go_wp2_with fail
  refine (svalid_any Q ra la rc lc g _ (HG.out.later (bel2 w _ _)) HS.out).mono ?_
  rintro e W0 ⟨⟨r, rfl, hr⟩, hb⟩
  have hs0 := hb.size
  simp only [World.size_alloc] at hs0
  have x0 := cell_on (a := ⟨w.heap.size, 0, none⟩) (v := .slice ra g.nr rc) (cellOn _ (cN w.heap.size rfl rfl)) hb
  have y0 := cell_on (a := ⟨w.heap.size + 1, 0, none⟩) (v := .slice none 0 0) (cN (w.heap.size + 1) (by simp) rfl) hb
  have y1 := cell_on (a := ⟨w.heap.size + 1, 1, none⟩) (v := .slice none 0 0) (cN (w.heap.size + 1) (by simp) rfl) hb
  have B0 : Hid (Below w.heap.size w W0) := bel_tr (bel2 w _ _) hb
  have fy0 : W0.frozen? ⟨w.heap.size + 1, 0, none⟩ = false := by
    rw [hb.frozen (p := ⟨w.heap.size + 1, 0, none⟩) (by simp)]
    exact soft1 _ _ 36 (w.heap.size + 1) 0 (by simp) (by simp)
  have fy1 : W0.frozen? ⟨w.heap.size + 1, 1, none⟩ = false := by
    rw [hb.frozen (p := ⟨w.heap.size + 1, 1, none⟩) (by simp)]
    exact soft1 _ _ 36 (w.heap.size + 1) 1 (by simp) (by simp)
  clear hb
  cases r with
  | false =>
    have HV : Hid (¬ M.Valid g) := fun q => absurd (hr.2 q) (by decide)
    clear hr
    go_wp2
    refine bodyPost_ret (v := .agg #[.slice none 0 0, .slice none 0 0]) ?_ rfl ?_
    · simp [results, Try.f25, go_sem, *]
    · exact ⟨⟨_, rfl, .inr ⟨HV.out, rfl⟩⟩, bel_set (bel_set B0.out _ _ _ (by omega)) _ _ _ (by omega)⟩
  | true =>
    have HV : Hid (M.Valid g) := hr.1 rfl
    clear hr
    have l1 : w.heap.size + 1 < W0.heap.size := by omega
    have l0 : w.heap.size < W0.heap.size := by omega
    go_wp2
    go_loopw [4] (fun i wr => serI W0 (fun i => erN (g.rule i)) g.nr i wr) (fun i _ => g.nr - (intOf i).toNat)
    case atStart =>
      exact ⟨0, .slice none 0 0, fun _ => False, fun _ => default, Nat.zero_le _, rfl, cN W0.heap.size rfl rfl, cN W0.heap.size rfl rfl, ⟨.inl ⟨rfl, rfl, rfl⟩, fun _ h => h.elim, fun i hi => absurd hi (Nat.not_lt_zero _), fun i hi => absurd hi (Nat.not_lt_zero _), bel1 W0 _, soft1 W0 _ 36⟩, by simp⟩
    case round =>
      obtain ⟨k, v, Qp, s, hk, rfl, v0, v1, hcp, hsz⟩ := hrel
      obtain ⟨W, eW⟩ : ∃ W, wr = W := ⟨_, rfl⟩
      subst wr
      obtain ⟨av, cv, rfl⟩ := hcp.own.shape
      have hbel := hcp.bel
      have g0 : W.cell? ⟨w.heap.size, 0, none⟩ = some (.slice ra g.nr rc) := cell_on x0 hbel
      have q0 : W.cell? ⟨w.heap.size + 1, 0, none⟩ = some (.slice none 0 0) := cell_on y0 hbel
      have q1 : W.cell? ⟨w.heap.size + 1, 1, none⟩ = some (.slice none 0 0) := cell_on y1 hbel
      have fq0 : W.frozen? ⟨w.heap.size + 1, 0, none⟩ = false := (hbel.frozen (p := ⟨w.heap.size + 1, 0, none⟩) l1).trans fy0
      have fq1 : W.frozen? ⟨w.heap.size + 1, 1, none⟩ = false := (hbel.frozen (p := ⟨w.heap.size + 1, 1, none⟩) l1).trans fy1
      by_cases hlt : k < g.nr
      · have hR := HG.out.rules.later (bel_tr B0.out hbel)
        rcases hR with h0 | ⟨b, off, rfl, hq, hR⟩
        · omega
        obtain ⟨⟨na, nc, c0, hn⟩, ⟨ba, bc, c1, hb⟩⟩ := hR k hlt
        have HN : Hid (Ints Q .u8 W na (g.rule k).nl (g.rule k).name) := hn
        have HO : Hid (OpsA Q W ba (g.rule k).bl (g.rule k).body) := hb
        have HSN : Hid (SmallN (g.rule k)) := HS.out.rule k hlt
        have HCP : Hid (CpR W0 W (fun i => erN (g.rule i)) k (.slice av k cv) Qp s) := hcp
        have hlt' : (k : Int) < (g.nr : Int) := by omega
        have fv : W.frozen? ⟨W0.heap.size, 0, none⟩ = false := hcp.soft W0.heap.size 0 (Nat.le_refl _) hsz
        clear hR hn hb hcp hbel x0 y0 y1 fy0 fy1
        go_wp2_with (go_at_call 69; refine (l2copy_any Q ba (g.rule k).bl bc (g.rule k).body _ HO.out HSN.out.body).mono ?_; rintro e W1 ⟨vb, Qs, f, rfl, hcb⟩; obtain ⟨ab, cb, rfl⟩ := hcb.own.shape; have HCB : Hid (CpB W W1 (g.rule k).body (g.rule k).bl (.slice ab (g.rule k).bl cb) Qs f) := hcb; clear hcb)
        have hbl := HSN.out.body.1
        go_loopw [6] (fun i wr => sinI W (g.rule k).bl (g.rule k).body (.slice ab (g.rule k).bl cb) i wr) (fun i _ => (g.rule k).bl - (intOf i).toNat)
        case atStart => exact ⟨0, Qs, f, Nat.zero_le _, rfl, by rw [erB_zero]; exact HCB.out⟩
        case round =>
          obtain ⟨m, Qs', f', hm, rfl, hcb⟩ := hrel
          by_cases hm' : m < (g.rule k).bl
          · obtain ⟨b2, rfl, hb2, _, d0, d1, d2, fz0, fz1, fz2⟩ := hcb.at hm'
            rw [erB_at] at d0 d1 d2
            have HCB2 : Hid (CpB W wr (erB (g.rule k).body m) (g.rule k).bl (.slice (some ⟨b2, 0, none⟩) (g.rule k).bl cb) Qs' f') := hcb
            have hm3 : (m : Int) < ((g.rule k).bl : Int) := by omega
            clear hcb
            by_cases e3 : ((g.rule k).body m).kind = 3
            · rw [e3] at d0
              have HE : Hid (er ((g.rule k).body m) = ⟨1, 0, fun _ => 0, 0⟩) := by show er ((g.rule k).body m) = _; unfold er; rw [if_pos e3]
              clear e3
              go_wp2
              go_roundw
              case rel =>
                have h := HCB2.out.put hm' ⟨1, 0, fun _ => 0, 0⟩ rfl
                rw [erB_put _ _ _ HE.out] at h
                exact ⟨m + 1, _, _, hm', by go_num, h⟩
              case measure => simp [intOf]; omega
            · have f3 : (((g.rule k).body m).kind == 3) = false := by simp [e3]
              have HE : Hid (er ((g.rule k).body m) = (g.rule k).body m) := by show er ((g.rule k).body m) = _; unfold er; rw [if_neg e3]
              clear e3
              go_wp2
              go_roundw
              case rel => exact ⟨m + 1, Qs', f', hm', by go_num, by rw [← erB_keep _ _ HE.out]; exact HCB2.out⟩
              case measure => simp [intOf]; omega
          · obtain rfl : m = (g.rule k).bl := by omega
            have bX : Hid (Below W.heap.size W wr) := hcb.bel
            have sX : Hid (Soft W wr) := hcb.soft
            have HOX : Hid (OpsA (New W wr) wr ab (g.rule k).bl (fun i => er ((g.rule k).body i))) := hcb.ops (fun i hi => by simp [erB, hi])
            have HNX : Hid (Ints Q .u8 wr na (g.rule k).nl (g.rule k).name) := HN.out.later hcb.bel
            have vx : wr.cell? ⟨W0.heap.size, 0, none⟩ = some (.slice av k cv) := cell_on v0 hcb.bel
            have gx : wr.cell? ⟨w.heap.size, 0, none⟩ = some (.slice (some ⟨b, off, none⟩) g.nr rc) := cell_on g0 hcb.bel
            have cx : wr.cell? ⟨b, off + k * 2, none⟩ = some (.slice na (g.rule k).nl nc) := cell_on c0 hcb.bel
            have hnl := HSN.out.name
            have vy := cellOn (.cells #[] 5) vx
            have gy := cellOn (.cells #[] 5) gx
            have cy := cellOn (.cells #[] 5) cx
            clear hcb HCB
            go_wp2_with fail
            go_region_law (first
              | (refine stepD rfl (.tmp 43) (.tmp 49) 22 22 rfl (v := .slice (some ⟨wr.heap.size, 0, none⟩) 0 0) (y := .slice na (g.rule k).nl nc) (by simp [Act.eval, Act.put]) (by simp [Act.eval, Act.put]) elem22 (own_empty _ wr.heap.size 1) (Ints.srcD Try.underlying22 ((HNX.out.later (Below.refl _ wr).drew).later (bel1 wr.drew _))) (by omega) ?_
                 intro v1' W1' hown hgrew hsz1
                 obtain ⟨⟨na', nc', ev, hI1⟩, hb1, hso1⟩ := clone_end (w := wr.drew) hown hgrew hsz1
                 cases ev
                 have v01 : W1'.cell? ⟨W0.heap.size, 0, none⟩ = some (.slice av k cv) := cell_on (w := wr.drew) vx hb1
                 have lt1 : W0.heap.size < W1'.heap.size := lt_of_cell v01
                 have p1 : Hid (Below W.heap.size W W1') := bel_tr bX.out.drew hb1
                 have HI1 : Hid (Ints (New wr.drew W1') .u8 W1' na' (g.rule k).nl (g.rule k).name) := hI1
                 have HB1 : Hid (Below wr.drew.heap.size wr.drew W1') := hb1
                 have HSO1 : Hid (Soft wr.drew W1') := hso1
                 clear hown hgrew hsz1 hI1 hb1 hso1)
              | (refine stepD rfl (.tmp 42) (.tmp 53) 33 33 rfl (v := .slice av k cv) (y := .slice (some ⟨W1'.heap.size, 0, none⟩) 1 1) (by simp [Act.eval, Act.put]) (by simp [Act.eval, Act.put]) elem33 (HCP.out.own.on (w' := W1'.alloc (.cells #[.slice na' (g.rule k).nl nc', .slice ab (g.rule k).bl cb] 76)) (fun x hx => (bel_tr p1.out (bel1 W1' _)).block x hx.1.2)) (src_two (u0 := .slice na' (g.rule k).nl nc') (u1 := .slice ab (g.rule k).bl cb) (cN W1'.heap.size rfl rfl) (cN W1'.heap.size rfl rfl) rfl rfl) (by omega) ?_
                 intro v4 W4 hown4 hgrew4 hsz4
                 obtain ⟨a4, c4, rfl⟩ := hown4.shape
                 have v04 : W4.cell? ⟨W0.heap.size, 0, none⟩ = some (.slice av k cv) := (World.cell?_of_block (a := ⟨W0.heap.size, 0, none⟩) (hgrew4.block W0.heap.size (by simp; omega) (fun h => Nat.lt_irrefl _ h.1.1))).trans (cellOn _ v01)
                 have fv4 : W4.frozen? ⟨W0.heap.size, 0, none⟩ = false := (hgrew4.frozen W0.heap.size 0 (by simp; omega)).trans ((World.frozen?_of_block (a := ⟨W0.heap.size, 0, none⟩) (Below.heap_alloc W1' _ _ lt1)).trans ((p1.out.frozen (p := ⟨W0.heap.size, 0, none⟩) hsz).trans fv))
                 have HE : Hid (serI W0 (fun i => erN (g.rule i)) g.nr (.int .i64 ((k + 1 : Nat) : Int)) (W4.setCell ⟨W0.heap.size, 0, none⟩ (.slice a4 (k + 1) c4))) := ser_step (X := wr.drew) hlt hsz v0 v1 HCP.out bX.out.drew sX.out (HOX.out.on (fun _ _ => rfl)) HI1.out HB1.out HSO1.out hown4 hgrew4
                 clear hown4 hgrew4 hsz4))
            all_goals go_goals
            all_goals go_wp2
            all_goals go_roundw
            all_goals first | exact HE.out | (simp [intOf]; omega)
      · obtain rfl : k = g.nr := by omega
        have HCP : Hid (CpR W0 W (fun i => erN (g.rule i)) g.nr (.slice av g.nr cv) Qp s) := hcp
        clear hcp hbel x0 y0 y1 fy0 fy1
        go_wp2
        refine bodyPost_ret (v := .agg #[.slice av g.nr cv, .slice none 0 0]) ?_ rfl ?_
        · simp [results, Try.f25, go_sem, *]
        · exact ser_end l1 B0.out HV.out HCP.out _ _

end Go.Proofs.Ytjndcajblpgjmaa
