/-
  The law FnExactErase.
-/
import Derived.Test.YtjndcajblpgjmaaRows
import Derived.Test.YtjndcajblpgjmaaOpen
import Derived.Test.YtjndcajblpgjmaaSame
import Derived.Test.YtjndcajblpgjmaaMarkE
import Derived.ShutString
import Derived.ChangeOld
import Derived.Deep.RegionWith
namespace Go.Proofs.Ytjndcajblpgjmaa.fnExactErase
open Go.ChangeShapes Go.WideShapes Go.ChangeAt Go.RowKit
open M (OpD NodeD Gr)
set_option linter.unusedVariables false

theorem own : ownKnob Try.prog.godebug = none := by kernel_rfl
theorem laidOut : laidOutB Try.prog = true := by kernel_rfl

theorem gon {Q : Nat → Prop} {w w' : World} {ra la : Option Addr} {g : Gr} (h : GramA Q w ra la g) (t : Stay Q w w') : GramA Q w' ra la g := ⟨h.rules.on t, h.labs.on t⟩
theorem sgram {g : Gr} {w w' : World} {e : Ending} (h : SErIs g w e w') : ∃ a c, e = .returned (.agg #[.slice a (erG g).nr c, .slice none 0 0]) ∧ GramA (New w w') w' a none (erG g) := by
  have q := h.gram
  rw [erG_nb] at q
  exact q
theorem egram {g : Gr} {w w' : World} {e : Ending} (h : EraseIs g w e w') : ∃ a c, e = .returned (.agg #[.slice a (erG g).nr c, .slice none 0 0]) ∧ GramA (New w w') w' a none (erG g) ∧ OwnG w.heap.size w'.heap.size w' a (erG g).nr (erG g).rule := by
  have q := h.owned
  rw [erG_nb] at q
  exact q
theorem eqE (Q Q' : Nat → Prop) (a a' : Option Addr) (c c' : Nat) (g : Gr) (w : World) (h1 : GramA Q w a none (erG g)) (h2 : GramA Q' w a' none (erG g)) (hs : SmallG g) :
    Calls Try.prog 19 #[.agg #[.slice a (erG g).nr c, .slice none 0 0], .agg #[.slice a' (erG g).nr c', .slice none 0 0]] w (SaysB True w) := by
  have q := eqGrammar_same Q Q' a a' none none c c' 0 0 (erG g) w h1 h2 (erG_small hs)
  rw [erG_nb] at q
  exact q
theorem keepC {w w' : World} {b o : Nat} {v : Value} (h : w.cell? ⟨b, o, none⟩ = some v) (k : w'.heap[b]? = w.heap[b]?) : w'.cell? ⟨b, o, none⟩ = some v := (World.cell?_of_block (a := ⟨b, o, none⟩) k).trans h

set_option maxRecDepth 100000 in
set_option maxHeartbeats 8000000 in
theorem walk (Q : Nat → Prop) (ra la : Option Addr) (rc lc : Nat) (g : Gr) (w : World) (hG : GramA Q w ra la g) (hB : BigG g) :
    Calls Try.prog 6 #[.agg #[.slice ra g.nr rc, .slice la g.nb lc]] w fun e w' => e = .returned (.bool true) ∧ Below w.heap.size w w' := by
  have HG : Hid (GramA Q w ra la g) := hG
  have HB : Hid (BigG g) := hB
  clear hG hB
  have BX : Hid (∀ W, Below (w.alloc (.cells #[.slice ra g.nr rc, .slice la g.nb lc] 30)).heap.size (w.alloc (.cells #[.slice ra g.nr rc, .slice la g.nb lc] 30)) W → W.cell? ⟨w.heap.size, 0, none⟩ = some (.slice ra g.nr rc) ∧ W.cell? ⟨w.heap.size, 1, none⟩ = some (.slice la g.nb lc)) := fun W hW =>
    ⟨cell_on (cN w.heap.size rfl rfl) hW, cell_on (cN w.heap.size rfl rfl) hW⟩
  go_enter Try.func6, Try.ntmps6
  go_wp2_with fail
  refine (szGrammar_any Q ra la rc lc g 1048576 _ (HG.out.later (bel1 w _)) HB.out (by omega) (by omega)).mono ?_
  rintro e W0 ⟨⟨r, rfl, hr, hp⟩, hb⟩
  obtain ⟨x0, x1⟩ := BX.out W0 hb
  have HP : Hid (0 ≤ r → SmallG g) := hp
  have B0 : Hid (Below w.heap.size w W0) := bel_tr (bel1 w _) hb
  have hs0 : w.heap.size < W0.heap.size := by have := hb.size; simp at this; omega
  clear hp hb
  by_cases hneg : r < 0
  · go_wp2
    go_ret
    exact ⟨rfl, B0.out⟩
  have HS : Hid (SmallG g) := HP.out (by omega)
  go_wp2_with fail
  refine (toGrammar_any Q ra la rc lc g _ (HG.out.later B0.out) HS.out).mono ?_
  rintro e W1 ⟨⟨ra1, rc1, la1, lc1, rfl, hg1⟩, hb, hso⟩
  replace x0 := cell_on x0 hb
  replace x1 := cell_on x1 hb
  have hs1 := hb.size
  have B1 : Hid (Below w.heap.size w W1) := bel_tr B0.out hb
  have G1 : Hid (GramA (New W0 W1) W1 ra1 la1 g) := hg1
  clear hb hso hg1
  go_wp2_with fail
  refine (serase_any _ ra1 la1 rc1 lc1 g _ G1.out HS.out).mono ?_
  rintro e W2 h2
  have hb := h2.bel
  obtain ⟨a2, c2, rfl, hg2⟩ := sgram h2
  replace x0 := cell_on x0 hb
  replace x1 := cell_on x1 hb
  have hs2 := hb.size
  have B2 : Hid (Below w.heap.size w W2) := bel_tr B1.out hb
  have G2 : Hid (GramA (New W1 W2) W2 a2 none (erG g)) := hg2
  clear hb h2 hg2
  have x0' := cellOn (.cells #[.slice a2 (erG g).nr c2, .slice none 0 0] 36) x0
  have x1' := cellOn (.cells #[.slice a2 (erG g).nr c2, .slice none 0 0] 36) x1
  go_wp2_with fail
  have bv2 := bel1 W2 (.cells #[.slice a2 (erG g).nr c2, .slice none 0 0] 36)
  have sv2 : (W2.alloc (.cells #[.slice a2 (erG g).nr c2, .slice none 0 0] 36)).heap.size = W2.heap.size + 1 := by simp
  have w0 : (W2.alloc (.cells #[.slice a2 (erG g).nr c2, .slice none 0 0] 36)).cell? ⟨W2.heap.size, 0, none⟩ = some (.slice a2 (erG g).nr c2) := cN W2.heap.size rfl rfl
  have w1 : (W2.alloc (.cells #[.slice a2 (erG g).nr c2, .slice none 0 0] 36)).cell? ⟨W2.heap.size, 1, none⟩ = some (.slice none 0 0) := cN W2.heap.size rfl rfl
  generalize W2.alloc (.cells #[.slice a2 (erG g).nr c2, .slice none 0 0] 36) = V2 at *
  refine (toGrammar_any Q ra la rc lc g _ (HG.out.later (bel_tr B2.out bv2)) HS.out).mono ?_
  rintro e W3 ⟨⟨ra3, rc3, la3, lc3, rfl, hg3⟩, hb, hso⟩
  replace x0 := cell_on (cell_on x0 bv2) hb
  replace x1 := cell_on (cell_on x1 bv2) hb
  clear x0' x1'
  replace w0 := cell_on w0 hb
  replace w1 := cell_on w1 hb
  have hs3 := hb.size
  have B3 : Hid (Below w.heap.size w W3) := bel_tr (bel_tr B2.out bv2) hb
  have G2' : Hid (GramA (New W1 W2) W3 a2 none (erG g)) := (G2.out.later bv2).later hb
  have G3 : Hid (GramA (New V2 W3) W3 ra3 la3 g) := hg3
  have S3 : Hid (Soft V2 W3) := hso
  clear hb hso hg3 bv2 G2
  go_wp2_with fail
  have bv3 := bel1 W3 (.cells #[.slice ra3 g.nr rc3, .slice la3 g.nb lc3] 36)
  have sv3 : (W3.alloc (.cells #[.slice ra3 g.nr rc3, .slice la3 g.nb lc3] 36)).heap.size = W3.heap.size + 1 := by simp
  have y0 : (W3.alloc (.cells #[.slice ra3 g.nr rc3, .slice la3 g.nb lc3] 36)).cell? ⟨W3.heap.size, 0, none⟩ = some (.slice ra3 g.nr rc3) := cN W3.heap.size rfl rfl
  have y1 : (W3.alloc (.cells #[.slice ra3 g.nr rc3, .slice la3 g.nb lc3] 36)).cell? ⟨W3.heap.size, 1, none⟩ = some (.slice la3 g.nb lc3) := cN W3.heap.size rfl rfl
  generalize W3.alloc (.cells #[.slice ra3 g.nr rc3, .slice la3 g.nb lc3] 36) = V3 at *
  refine (erase_any _ ra3 la3 rc3 lc3 g _ (G3.out.later bv3) HS.out).mono ?_
  rintro e W4 h4
  have hb := h4.bel
  obtain ⟨a4, c4, rfl, hg4, ho4⟩ := egram h4
  replace x0 := cell_on (cell_on x0 bv3) hb
  replace x1 := cell_on (cell_on x1 bv3) hb
  replace w0 := cell_on (cell_on w0 bv3) hb
  replace w1 := cell_on (cell_on w1 bv3) hb
  replace y0 := cell_on y0 hb
  replace y1 := cell_on y1 hb
  have hs4 := hb.size
  have B34 : Hid (Below W3.heap.size W3 W4) := bel_tr bv3 hb
  have G4 : Hid (GramA (New V3 W4) W4 a4 none (erG g)) := hg4
  have O4 : Hid (OwnG V3.heap.size W4.heap.size W4 a4 (erG g).nr (erG g).rule) := ho4
  clear hb h4 hg4 ho4 bv3
  have w0' := cellOn (.cells #[.slice a4 (erG g).nr c4, .slice none 0 0] 36) w0
  have w1' := cellOn (.cells #[.slice a4 (erG g).nr c4, .slice none 0 0] 36) w1
  go_wp2_with fail
  have bv4 := bel1 W4 (.cells #[.slice a4 (erG g).nr c4, .slice none 0 0] 36)
  have sv4 : (W4.alloc (.cells #[.slice a4 (erG g).nr c4, .slice none 0 0] 36)).heap.size = W4.heap.size + 1 := by simp
  have z0 : (W4.alloc (.cells #[.slice a4 (erG g).nr c4, .slice none 0 0] 36)).cell? ⟨W4.heap.size, 0, none⟩ = some (.slice a4 (erG g).nr c4) := cN W4.heap.size rfl rfl
  have z1 : (W4.alloc (.cells #[.slice a4 (erG g).nr c4, .slice none 0 0] 36)).cell? ⟨W4.heap.size, 1, none⟩ = some (.slice none 0 0) := cN W4.heap.size rfl rfl
  generalize W4.alloc (.cells #[.slice a4 (erG g).nr c4, .slice none 0 0] 36) = V4 at *
  refine (eqE _ _ a4 a2 c4 c2 g _ (G4.out.later bv4) ((G2'.out.later B34.out).later bv4) HS.out).mono ?_
  rintro e W5 ⟨⟨r5, rfl, hr5⟩, hb⟩
  clear w0' w1'
  obtain rfl : r5 = true := hr5.2 trivial
  replace x0 := cell_on (cell_on x0 bv4) hb
  replace x1 := cell_on (cell_on x1 bv4) hb
  replace w0 := cell_on (cell_on w0 bv4) hb
  replace w1 := cell_on (cell_on w1 bv4) hb
  replace y0 := cell_on (cell_on y0 bv4) hb
  replace y1 := cell_on (cell_on y1 bv4) hb
  replace z0 := cell_on z0 hb
  replace z1 := cell_on z1 hb
  have hs5 := hb.size
  have B45 : Hid (Below W4.heap.size W4 W5) := bel_tr bv4 hb
  have B35 : Hid (Below W3.heap.size W3 W5) := bel_tr B34.out B45.out
  have B5 : Hid (Below w.heap.size w W5) := bel_tr B3.out B35.out
  clear hb hr5 bv4
  go_wp2_with fail
  go_region_with (first | (go_at_call 17; refine (toGrammar_any Q ra la rc lc g _ (HG.out.later (below_drewN B5.out 1)) HS.out).mono ?_; rintro e W6 ⟨⟨ra6, rc6, la6, lc6, rfl, hg6⟩, hb, hso⟩; have u0 := cell_on (w := W5.drewN 1) (a := ⟨W3.heap.size, 0, none⟩) (v := .slice ra3 g.nr rc3) y0 hb; have u1 := cell_on (w := W5.drewN 1) (a := ⟨W3.heap.size, 1, none⟩) (v := .slice la3 g.nb lc3) y1 hb; have B56 : Hid (Below W5.heap.size W5 W6) := (below_drewN (Below.refl _ W5) 1).trans hb; have G6 : Hid (GramA (New (W5.drewN 1) W6) W6 ra6 la6 g) := hg6; clear hb hso hg6) | (go_at_call 19; refine (eqGrammar_same _ _ ra3 ra6 la3 la6 rc3 rc6 lc3 lc6 g _ ((G3.out.later B35.out).later B56.out) G6.out HS.out).mono ?_; rintro e W7 ⟨⟨r7, rfl, hr7⟩, hb⟩; obtain rfl : r7 = true := hr7.2 trivial; have B57 : Hid (Below W5.heap.size W5 W7) := bel_tr B56.out hb; clear hr7 hb))
  all_goals (
    have B7 : Hid (Below w.heap.size w W7) := bel_tr B5.out B57.out
    have G27 : Hid (GramA (New W1 W2) W7 a2 none (erG g)) := (G2'.out.later B35.out).later B57.out
    have G37 : Hid (GramA (New V2 W3) W7 ra3 la3 g) := (G3.out.later B35.out).later B57.out
    have G47 : Hid (GramA (New V3 W4) W7 a4 none (erG g)) := (G4.out.later B45.out).later B57.out
    have HF7 : Hid (SoftQ (New V2 W3) W7) := fun b o hb => by
      rw [(bel_tr B35.out B57.out).frozen (p := ⟨b, o, none⟩) hb.2]; exact S3.out b o hb.1 hb.2
    replace x0 := cell_on x0 B57.out
    replace x1 := cell_on x1 B57.out
    replace w0 := cell_on w0 B57.out
    replace w1 := cell_on w1 B57.out
    replace y0 := cell_on y0 B57.out
    replace y1 := cell_on y1 B57.out
    replace z0 := cell_on z0 B57.out
    replace z1 := cell_on z1 B57.out
    have hs7 := B57.out.size
    clear u0 u1
    go_wp2_with fail
    refine (markGrammar_shape (New V2 W3) ra3 la3 rc3 lc3 g _ G37.out HS.out HF7.out (fun b hb => by have := hb.2; omega)).mono ?_
    rintro e W8 ⟨⟨k8, rfl, hk8⟩, hs8, ho8, ht8, hu8, hk⟩
    have nq : ∀ b, b < V2.heap.size ∨ W3.heap.size ≤ b → b < W7.heap.size → W8.heap[b]? = W7.heap[b]? := fun b h1 h2 => hk b h2 (fun q => by
      have q1 := q.1
      have q2 := q.2
      omega)
    replace x0 := keepC x0 (nq _ (.inl (by omega)) (by omega))
    replace x1 := keepC x1 (nq _ (.inl (by omega)) (by omega))
    replace w0 := keepC w0 (nq _ (.inl (by omega)) (by omega))
    replace w1 := keepC w1 (nq _ (.inl (by omega)) (by omega))
    replace z0 := keepC z0 (nq _ (.inr (by omega)) (by omega))
    replace z1 := keepC z1 (nq _ (.inr (by omega)) (by omega))
    have B8 : Hid (Below w.heap.size w W8) := ⟨ho8.trans B7.out.os, ht8.trans B7.out.tape, hu8.trans B7.out.output, Nat.le_trans B7.out.size hs8, fun b hb => (nq b (.inl (by omega)) (by omega)).trans (B7.out.block b hb)⟩
    have G28 : Hid (GramA (New W1 W2) W8 a2 none (erG g)) := gon G27.out (fun b hb => nq b (.inl (by have := hb.2; omega)) (by have := hb.2; omega))
    have G48 : Hid (GramA (New V3 W4) W8 a4 none (erG g)) := gon G47.out (fun b hb => nq b (.inr (by have := hb.1; omega)) (by have := hb.2; omega))
    have O48 : Hid (OwnG V3.heap.size W4.heap.size W8 a4 (erG g).nr (erG g).rule) := O4.out.on (by omega) (fun x h1 h2 => (nq x (.inr (by omega)) (by omega)).trans ((bel_tr B45.out B57.out).block x h2))
    have nk8 : ¬ k8 < 0 := by omega
    clear hk nq ho8 ht8 hu8 y0 y1
    go_wp2_with fail
    refine (eqE _ _ a4 a2 c4 c2 g _ G48.out G28.out HS.out).mono ?_
    rintro e W9 ⟨⟨r9, rfl, hr9⟩, hb⟩
    obtain rfl : r9 = true := hr9.2 trivial
    replace x0 := cell_on x0 hb
    replace x1 := cell_on x1 hb
    replace w0 := cell_on w0 hb
    replace w1 := cell_on w1 hb
    replace z0 := cell_on z0 hb
    replace z1 := cell_on z1 hb
    have hs9 := hb.size
    have B9 : Hid (Below w.heap.size w W9) := bel_tr B8.out hb
    have G29 : Hid (GramA (New W1 W2) W9 a2 none (erG g)) := G28.out.later hb
    have O49 : Hid (OwnG V3.heap.size W4.heap.size W9 a4 (erG g).nr (erG g).rule) := O48.out.on hb.size (fun x h1 h2 => hb.block x (by omega))
    clear hb hr9
    go_wp2_with fail
    refine (markGrammar_owned V3.heap.size W4.heap.size a4 (erG g).nr c4 0 (erG g).rule _ O49.out (fun i hi => ((erG_small HS.out).rule i hi).m) (erG_small HS.out).nr (by omega)).mono ?_
    rintro e W10 ⟨rfl, hR, ho, ht, hu, hs10, hk⟩
    replace x0 := keepC x0 (hk _ (by omega) (fun q => by omega))
    replace x1 := keepC x1 (hk _ (by omega) (fun q => by omega))
    replace w0 := keepC w0 (hk _ (by omega) (fun q => by omega))
    replace w1 := keepC w1 (hk _ (by omega) (fun q => by omega))
    replace z0 := keepC z0 (hk _ (by omega) (fun q => by omega))
    replace z1 := keepC z1 (hk _ (by omega) (fun q => by omega))
    have B10 : Hid (Below w.heap.size w W10) := ⟨ho.trans B9.out.os, ht.trans B9.out.tape, hu.trans B9.out.output, Nat.le_trans B9.out.size hs10, fun b hb => (hk b (by omega) (fun q => by omega)).trans (B9.out.block b hb)⟩
    have G210 : Hid (GramA (New W1 W2) W10 a2 none (erG g)) := gon G29.out (fun b hb => hk b (by have := hb.2; omega) (fun q => by have := hb.2; omega))
    have HR : Hid (RulesA (fun _ => True) W10 a4 (erG g).nr (mkR 1 (erG g).rule)) := hR
    clear hR ho ht hu hk
    go_wp2_with fail
    refine (heldGrammar_any _ a4 (erG g).nr c4 0 (erG g).rule _ HR.out (fun i hi => ((erG_small HS.out).rule i hi).m) (erG_small HS.out).nr).mono ?_
    rintro e W11 ⟨rfl, hb⟩
    replace x0 := cell_on x0 hb
    replace x1 := cell_on x1 hb
    replace w0 := cell_on w0 hb
    replace w1 := cell_on w1 hb
    have hs11 := hb.size
    have B11 : Hid (Below w.heap.size w W11) := bel_tr B10.out hb
    have G211 : Hid (GramA (New W1 W2) W11 a2 none (erG g)) := G210.out.later hb
    have nneg : ¬ (1 + (cntR (erG g).rule (erG g).nr : Int) < 0) := by omega
    clear hb z0 z1
    go_wp2_with fail
    refine (toGrammar_any Q ra la rc lc g _ (HG.out.later B11.out) HS.out).mono ?_
    rintro e W12 ⟨⟨ra12, rc12, la12, lc12, rfl, hg12⟩, hb, hso⟩
    replace w0 := cell_on w0 hb
    replace w1 := cell_on w1 hb
    have B12 : Hid (Below w.heap.size w W12) := bel_tr B11.out hb
    have G212 : Hid (GramA (New W1 W2) W12 a2 none (erG g)) := G211.out.later hb
    have G12 : Hid (GramA (New W11 W12) W12 ra12 la12 g) := hg12
    clear hb hso hg12
    go_wp2_with fail
    refine (erase_any _ ra12 la12 rc12 lc12 g _ G12.out HS.out).mono ?_
    rintro e W13 h13
    have hb := h13.bel
    obtain ⟨a13, c13, rfl, hg13, _⟩ := egram h13
    replace w0 := cell_on w0 hb
    replace w1 := cell_on w1 hb
    have B13 : Hid (Below w.heap.size w W13) := bel_tr B12.out hb
    have G213 : Hid (GramA (New W1 W2) W13 a2 none (erG g)) := G212.out.later hb
    have G13 : Hid (GramA (New W12 W13) W13 a13 none (erG g)) := hg13
    clear hb h13 hg13
    have w0' := cellOn (.cells #[.slice a13 (erG g).nr c13, .slice none 0 0] 36) w0
    have w1' := cellOn (.cells #[.slice a13 (erG g).nr c13, .slice none 0 0] 36) w1
    go_wp2_with fail
    refine (eqE _ _ a13 a2 c13 c2 g _ (G13.out.later (bel1 W13 _)) (G213.out.later (bel1 W13 _)) HS.out).mono ?_
    rintro e W14 ⟨⟨r14, rfl, hr14⟩, hb⟩
    obtain rfl : r14 = true := hr14.2 trivial
    have B14 : Hid (Below w.heap.size w W14) := bel_tr B13.out (bel_tr (bel1 W13 _) hb)
    clear hb hr14
    go_wp2
    go_ret
    exact ⟨rfl, B14.out⟩)

set_option maxRecDepth 100000 in
theorem lifted (os : Os) (started : os.Started) (H : Type) (enc : TypeId × Value → H) :
    ReturnsInHanded {} Try.checked os 6 .any (Rows.fnExactEraseSpec.pre6 enc Try.prog Try.f6 Rows.fnExactEraseRow.domain false) (Rows.fnExactEraseSpec.post enc Try.prog Try.f6 false true false false) := by
  refine returnsInHanded_of_change (C := Try.checked) own started (by kernel_rfl) Try.func6
    (ChangeSpec.witness6 (enc := enc) (C := Try.checked) false ⟨#[], #[.agg #[.slice none 0 0, .slice none 0 0]], []⟩ 8 (by kernel_rfl) (by kernel_rfl) (by kernel_rfl) (by kernel_rfl)) ?_
  intro W base args ds gs before hval0 hW hcnd _
  have hval : ∀ (j : Nat) t v, Try.f6.params[j]? = some t → args[j]? = some v → Value.okWide Try.prog W .any base t v := hval0
  have hW' := hW
  obtain ⟨p, q, hA0, hV, rfl, hfz, hnd⟩ := hW
  have hA : DataW.TrodAll enc Try.prog W 0 (fun _ => true) true Try.f6.params.toList args.toList ds p := hA0
  rw [Try.params6] at hA hval
  obtain ⟨v0, vs0, d0, ds0, p0, q0, hargs, rfl, rfl, h0, r0⟩ := trodAll_cons hA
  obtain ⟨rfl, rfl, rfl⟩ := trodAll_nil r0
  obtain rfl : args = #[v0] := by cases args; simp_all
  obtain ⟨rfl, rfl⟩ := trodVars_none hV
  obtain ⟨cs, rfl, hcs⟩ := okWide_struct Try.underlying30 (hval 0 30 v0 rfl rfl)
  have k0 := h0
  have lt0 : ∀ x ∈ p0, x.block < W.heap.size := by obtain ⟨m, hm⟩ := k0; exact DataW.trod_lt m _ _ _ hm
  obtain ⟨ra, rc, la, lc, g, hcl, hG, hB⟩ : ∃ ra rc la lc, ∃ g : Gr, cs = #[.slice ra g.nr rc, .slice la g.nb lc] ∧ GramA Any W ra la g ∧ BigG g := by
    obtain ⟨fuel, hf⟩ := h0
    obtain ⟨ra, rc, la, lc, g, e, hG, hB⟩ := arg_grammar hf
    refine ⟨ra, rc, la, lc, g, ?_, hG, hB⟩
    have e' : cs.toList = [.slice ra g.nr rc, .slice la g.nb lc] := by simpa [Value.cells] using e
    exact Array.ext' (by simpa using e')
  subst hcl
  clear hA0 hval0
  refine (walk Any ra la rc lc g W hG hB).mono fun e W' ⟨he, bel⟩ => ?_
  subst he
  exact ⟨_, rfl, _, _, _, [], _, [], hW', trodAll_mk1 (shut_bool Try.underlying4 _), (trodAll_cons_mk (Below.trod laidOut (by kernel_rfl) (of_decide_eq_true (by kernel_rfl)) k0 bel lt0) trodAll_mk0), rfl, bel.frame _, fun h => by cases h⟩

theorem over : Rows.fnExactEraseRow.holds Try.pinned (OpenSpec.ofChange Rows.fnExactEraseSpec) :=
  OpenClaim.holds_of_wide 6 Try.f6 rfl rfl rfl rfl rfl rfl rfl ⟨rfl, rfl, rfl, rfl, rfl⟩ rfl rfl rfl rfl rfl (by kernel_rfl) Try.func6 (by kernel_rfl)
    (of_decide_eq_true (by kernel_rfl)) (by unfold Func.isWrapper; first | (rw [if_pos (by decide +kernel)]; kernel_rfl) | (rw [if_neg (by decide +kernel)]; exact ⟨rfl, rfl⟩))
    (fun os started H enc _ => lifted os started H enc)

end Go.Proofs.Ytjndcajblpgjmaa.fnExactErase
namespace Go.Proofs.Ytjndcajblpgjmaa
/-- The statement. -/
theorem fnExactErase_holds : Rows.FnExactEraseSaid := fnExactErase.over
#print axioms fnExactErase_holds
end Go.Proofs.Ytjndcajblpgjmaa
