/-
  Walks: the specification's BuildTree.
-/
import Derived.Test.YtcmcbemcfjbchabTDep
import Derived.BigRegion
import Derived.Deep.RegionHeld3
namespace Go.Proofs.Ytcmcbemcfjbchab
open Go.RowKit
set_option linter.unusedVariables false
set_option linter.unusedSimpArgs false

/-- What a BuildTree answers. -/
def TreeIs (E : Nat → EvD) (n : Nat) (w : World) (e : Ending) (w' : World) : Prop :=
  Below w.heap.size w w' ∧ ((Whole E n ∧ ∃ ta tc, e = .returned (.tuple #[.slice ta (num E n) tc, .int .i64 0]) ∧ OwnC (New w w') w' (.slice ta (num E n) tc) 5 (num E n) (rowS E n n)) ∨ (¬ Whole E n ∧ e = .returned (.tuple #[.slice none 0 0, .int .i64 4])))
theorem ownL_ints {w0 w : World} {a : Option Addr} {c : Nat} {E : Nat → EvD} {n : Nat} (h : OwnL w0 w (.slice a n c) (dl E n)) : Ints (New w0 w) .i64 w a n (dpt E) := by
  obtain ⟨P, ho, hp, hb⟩ := h
  rcases ho with ⟨_, e, _⟩ | ⟨g, cap, e, hq, hl, hc, hcell, hw⟩
  · rw [dl_len] at e; exact .inl e
  · obtain rfl : a = some ⟨g, 0, none⟩ := by injection e
    refine .inr ⟨g, 0, rfl, hp g hq, fun i hi => ?_⟩
    have h1 := hcell i (by simp only [intsV, List.length_map, dl_len]; exact hi)
    rw [Nat.zero_add, h1]
    simp only [intsV, List.getElem?_map, dl_at E hi]
    rfl
theorem info3n : (Try.prog.info? 3).map (fun i => (i.zero, i.size, i.bytes)) = some (some (.int .i64 0), 1, 8) := by kernel_rfl
def toR (E : Nat → EvD) (n k j : Nat) : Int := if k ≤ j ∧ cls E j = false then fin_ E n (n - j) (opn E j + 1) else 0
def b1I (W : World) (n : Nat) (E : Nat → EvD) (iv : Value) (wr : World) : Prop :=
  ∃ k : Nat, k ≤ n ∧ iv = .int .i64 ((k : Int) - 1) ∧ wr.rowIs W.heap.size 3 (n + 2) (fun d => .int .i64 (fin_ E n (n - k) (d : Int))) ∧ wr.rowIs (W.heap.size + 1) 3 n (fun j => .int .i64 (toR E n k j)) ∧ Below W.heap.size W wr ∧ wr.heap.size = W.heap.size + 2
def b2I (W : World) (n : Nat) (E : Nat → EvD) (ov iv : Value) (wr : World) : Prop :=
  ∃ k : Nat, k ≤ n ∧ iv = .int .i64 (k : Int) ∧ wr.rowIs W.heap.size 3 (n + 2) (fun d => .int .i64 (las E k (d : Int))) ∧ OwnR (W.heap.size + 1) W wr ov (num E k) (rowS E n k)

theorem b1_close {W wr : World} {n j d : Nat} {E : Nat → EvD} (hj : j + 1 ≤ n) (hc : cls E j = true) (hd : dpt E j = (d : Int)) (h1 : wr.rowIs W.heap.size 3 (n + 2) (fun d => .int .i64 (fin_ E n (n - (j + 1)) (d : Int)))) (h2 : wr.rowIs (W.heap.size + 1) 3 n (fun i => .int .i64 (toR E n (j + 1) i))) (hb : Below W.heap.size W wr) (hs : wr.heap.size = W.heap.size + 2) :
    b1I W n E (.int .i64 ((j : Int) - 1)) (wr.setCell ⟨W.heap.size, d, none⟩ (.int .i64 (E j).pos)) := by
  refine ⟨j, by omega, rfl, ((h1.set d _).congr fun i hi => ?_), ((h2.setOther (a := ⟨W.heap.size, d, none⟩) (by simp) _).congr fun i hi => ?_), bel_set hb _ _ _ (Nat.le_refl _), by rw [size_set]; exact hs⟩
  · rw [fin_at E (show j < n by omega)]
    have ho : opn E j = (d : Int) := by rw [← hd, dpt, hc]; rfl
    by_cases e : i = d
    · subst e; rw [if_pos rfl, if_pos ⟨hc, ho⟩]
    · rw [if_neg e, if_neg (fun q => e (by have := q.2; omega))]
  · unfold toR
    by_cases e : i = j
    · subst e; simp [hc]
    · have : j + 1 ≤ i ↔ j ≤ i := by omega
      simp only [this]
theorem b1_open {W wr : World} {n j d : Nat} {E : Nat → EvD} (hj : j + 1 ≤ n) (hc : cls E j = false) (hd : dpt E j = (d : Int)) (h1 : wr.rowIs W.heap.size 3 (n + 2) (fun d => .int .i64 (fin_ E n (n - (j + 1)) (d : Int)))) (h2 : wr.rowIs (W.heap.size + 1) 3 n (fun i => .int .i64 (toR E n (j + 1) i))) (hb : Below W.heap.size W wr) (hs : wr.heap.size = W.heap.size + 2) :
    b1I W n E (.int .i64 ((j : Int) - 1)) (wr.setCell ⟨W.heap.size + 1, j, none⟩ (.int .i64 (fin_ E n (n - (j + 1)) (d : Int)))) := by
  have ho : opn E j + 1 = (d : Int) := by rw [← hd, dpt, hc]; rfl
  refine ⟨j, by omega, rfl, ((h1.setOther (a := ⟨W.heap.size + 1, j, none⟩) (by simp) _).congr fun i hi => ?_), ((h2.set j _).congr fun i hi => ?_), bel_set hb _ _ _ (by omega), by rw [size_set]; exact hs⟩
  · rw [fin_at E (show j < n by omega), if_neg (by simp [hc])]
  · unfold toR
    by_cases e : i = j
    · subst e; rw [if_pos rfl, if_pos ⟨Nat.le_refl _, hc⟩, fin_at E (show i < n by omega), if_neg (by simp [hc]), ho]
    · have : j + 1 ≤ i ↔ j ≤ i := by omega
      rw [if_neg e]
      simp only [this]

set_option maxRecDepth 100000 in
set_option maxHeartbeats 8000000 in
theorem sbuild_any (Q : Nat → Prop) (a : Option Addr) (n c : Nat) (E : Nat → EvD) (w : World) (hE : EvA Q w a n E) (hn : n ≤ 1048576) :
    Calls Try.prog 49 #[.slice a n c] w (TreeIs E n w) := by
  have HE : Hid (EvA Q w a n E) := hE
  have hm0 := run_make_row' (P := Try.prog) 57 3 (.int .i64 0) 8 Try.underlying57 info3n rfl .i64 .i64 n (by omega) (by omega)
  have hm2 : ∀ w, (Instr.makeSlice 57 (.int .i64 ((n : Int) + 2)) (.int .i64 ((n : Int) + 2))).run Try.prog w = .ok (.slice (some ⟨w.heap.size, 0, none⟩) (n + 2) (n + 2)) (w.alloc (.cells (madeCells #[.int .i64 0] (n + 2)) 3)) :=
    run_make_row' (P := Try.prog) 57 3 (.int .i64 0) 8 Try.underlying57 info3n rfl .i64 .i64 (n + 2) (by omega) (by omega)
  clear hE
  go_enter Try.func49, Try.ntmps49
  go_wp2_with fail
  refine (l5eventsOK_any Q a n c E _ HE.out hn).mono ?_
  rintro e W0 ⟨⟨r, rfl, hr⟩, hb⟩
  have B0 : Hid (Below w.heap.size w W0) := hb
  have HR : Hid (r = true ↔ Whole E n) := hr
  clear hr hb
  cases r with
  | false =>
    have HNW : Hid (¬ Whole E n) := fun h => by have := HR.out.2 h; cases this
    go_wp2
    refine bodyPost_ret (by simp [results, Try.f49, go_sem]; rfl) rfl ?_
    exact ⟨B0.out, .inr ⟨HNW.out, rfl⟩⟩
  | true =>
    have HW : Hid (Whole E n) := HR.out.1 rfl
    clear HR
    go_wp2_with fail
    refine (l5depths_any Q a n c E _ (HE.out.later B0.out) hn HW.out.1).mono ?_
    rintro e W1 ⟨da, dc, rfl, hO⟩
    rw [dl_len] at hO ⊢
    have HD : Hid (Ints (New W0 W1) .i64 W1 da n (dpt E)) := ownL_ints hO
    have B1 : Hid (Below w.heap.size w W1) := bel_tr B0.out hO.bel
    clear hO
    go_wp2
    go_loopw [7] (fun iv wr => b1I W1 n E iv wr) (fun iv _ => (intOf iv + 1).toNat)
    case atStart =>
      refine ⟨n, Nat.le_refl _, rfl, ((World.rowIs_made W1 (.int .i64 0) (n + 2) 3).alloc _).congr fun d _ => ?_, ?_, bel2 W1 _ _, by simp⟩
      · rw [Nat.sub_self]; rfl
      · have h := World.rowIs_made (W1.alloc (.cells (madeCells #[.int .i64 0] (n + 2)) 3)) (.int .i64 0) n 3
        rw [show (W1.alloc (.cells (madeCells #[.int .i64 0] (n + 2)) 3)).heap.size = W1.heap.size + 1 by simp] at h
        exact h.congr fun j hj => by unfold toR; rw [if_neg (by omega)]
    case round =>
      obtain ⟨k, hk, rfl, hr1, hr2, hbel, hsz⟩ := hrel
      clear hm0
      rcases Nat.eq_zero_or_pos k with h0 | h0
      · subst h0
        have HT : Hid (∀ W, Below wr.heap.size wr W → W.rowIs (W1.heap.size + 1) 3 n (fun j => .int .i64 (toR E n 0 j))) := fun W hW => hr2.of_block (hW.block _ (by omega))
        have HB1 : Hid (Below w.heap.size w wr) := bel_tr B1.out hbel
        have HD2 : Hid (Ints (New W0 W1) .i64 wr da n (dpt E)) := HD.out.later hbel
        have HSZ : Hid (wr.heap.size = W1.heap.size + 2) := hsz
        have l1 : W1.heap.size + 1 < wr.heap.size := by omega
        clear hr1 hr2 hbel hsz
        have hmc : (madeCells #[Value.int .i64 0] (n + 2))[0]? = some (.int .i64 0) := by simp [madeCells]
        have HX : Hid ((wr.alloc (.cells ((madeCells #[.int .i64 0] (n + 2)).setIfInBounds 0 (.int .i64 (-1))) 3)).rowIs wr.heap.size 3 (n + 2) (fun d => .int .i64 (las E 0 (d : Int)))) := by
          have h := World.rowIs_alloc wr ((madeCells #[.int .i64 0] (n + 2)).setIfInBounds 0 (.int .i64 (-1))) 3 (fun d => .int .i64 (las E 0 (d : Int))) (fun d hd => by
            have hd' : d < n + 2 := by simpa [madeCells] using hd
            by_cases e : d = 0
            · subst e; simp [las, madeCells]
            · have : ¬ (d : Int) = 0 := by omega
              have e' : ¬ 0 = d := by omega
              simp [las, madeCells, Array.getElem?_setIfInBounds, e', e, hd', Nat.mod_one])
          rw [show ((madeCells #[Value.int .i64 0] (n + 2)).setIfInBounds 0 (.int .i64 (-1))).size = n + 2 by simp [madeCells]] at h
          exact h
        generalize wr = W2 at *
        go_wp2
        go_loopw [9, 10] (fun ov iv wr => b2I W2 n E ov iv wr) (fun ov iv _ => n - (intOf iv).toNat)
        case atStart =>
          refine ⟨0, Nat.zero_le _, rfl, HX.out, fun _ => False, .inl ⟨rfl, rfl, rfl⟩, fun b q => q.elim, by omega, by simp, bel1 W2 _⟩
        case round =>
          obtain ⟨k, hk, rfl, hrow, hR⟩ := hrel
          obtain ⟨oa, oc, rfl⟩ := hR.shape
          have hbel := hR.bel
          obtain ⟨m, hm⟩ : ∃ m, num E k = m := ⟨_, rfl⟩
          have hmk := num_le E k
          rw [hm] at hR hmk ⊢
          have HM : Hid (num E k = m) := hm
          clear hm hm2 hmc
          by_cases hlt : k < n
          · have hE := (HE.out.later HB1.out).later hbel
            rcases hE with h0 | ⟨b, off, rfl, hq, hE⟩
            · omega
            have hE0 := HE.out.later HB1.out
            have hDD := HD2.out.later hbel
            rcases hDD with h0 | ⟨db, dof, rfl, hdq, hDD⟩
            · omega
            obtain ⟨c0, c1, c2⟩ := hE k hlt
            have d0 := hDD k hlt
            have lb : b < W2.heap.size := by
              rcases hE0 with h0 | ⟨b', off', e', _, h'⟩
              · omega
              · obtain ⟨rfl, rfl⟩ : b = b' ∧ off = off' := by injection e' with e'; injection e' with e1 e2; exact ⟨e1, e2⟩
                exact lt_of_cell (h' k hlt).1
            have ldb : db < W2.heap.size := by have := hdq.2; omega
            have hbs := hbel.size
            have hrl := hrow.lt
            have hlt' : (k : Int) < (n : Int) := by omega
            have lbw : b < wr.heap.size := by omega
            have ldw : db < wr.heap.size := by omega
            have hTR := (HT.out wr hbel).cell hlt
            have o2 := opn_ge (HW.out.1.less (show k ≤ n by omega))
            have o1 := opn_le E k
            clear hE hE0 hDD
            cases hc : ((E k).kind == 2) with
            | true =>
              have hcl : cls E k = true := hc
              have HST : Hid (b2I W2 n E (.slice oa m oc) (.int .i64 ((k + 1 : Nat) : Int)) wr) := ⟨k + 1, by omega, rfl, hrow.congr (fun d _ => by rw [las_close hcl]), by rw [num_close hcl, HM.out, rowS_close hcl]; exact hR⟩
              clear hrow hR hbel hcl
              go_wp2
              go_roundw
              case rel => exact HST.out
              case measure => first | (simp [intOf]; done) | (simp [intOf]; omega)
            | false =>
              have hcl : cls E k = false := hc
              obtain ⟨e, he⟩ : ∃ e : Nat, opn E k = (e : Int) := ⟨(opn E k).toNat, by omega⟩
              have hd : dpt E k = (e : Int) + 1 := by rw [dpt, hcl, he]; rfl
              rw [hd] at d0
              have r1 := hrow.cell (i := e + 1) (by omega)
              have f1 := hrow.frozen (e + 1)
              have hen : (e : Int) + 1 < (n : Int) + 2 := by omega
              have hen2 : (e : Int) < (n : Int) + 2 := by omega
              have hen3 : (0 : Int) ≤ (e : Int) := by omega
              have hwp : IntKind.i64.wrap ((e : Int) + 1 - 1) = (e : Int) := by rw [show (e : Int) + 1 - 1 = (e : Int) by omega, IntKind.wrap_i64]; omega
              have hwq : IntKind.i64.wrap (e : Int) = (e : Int) := by rw [IntKind.wrap_i64]; omega
              have hY : (wr.setCell ⟨W2.heap.size, e + 1, none⟩ (.int .i64 (m : Int))).rowIs W2.heap.size 3 (n + 2) (fun d => .int .i64 (las E (k + 1) (d : Int))) := (hrow.set (e + 1) _).congr (fun d _ => by
                rw [las_open hcl, he, HM.out]
                by_cases q : d = e + 1
                · subst q; rw [if_pos rfl, if_pos (by omega)]
                · rw [if_neg q, if_neg (by omega)])
              have y0 : (wr.setCell ⟨W2.heap.size, e + 1, none⟩ (.int .i64 (m : Int))).cell? ⟨b, off + k * 3, none⟩ = some (.int .i64 (E k).kind) := (World.cell?_of_block (a := ⟨b, off + k * 3, none⟩) (Below.heap_setCell _ _ _ _ (by simp; omega))).trans c0
              have y1 : (wr.setCell ⟨W2.heap.size, e + 1, none⟩ (.int .i64 (m : Int))).cell? ⟨b, off + k * 3 + 1, none⟩ = some (.int .i64 (E k).arg) := (World.cell?_of_block (a := ⟨b, off + k * 3 + 1, none⟩) (Below.heap_setCell _ _ _ _ (by simp; omega))).trans c1
              have y2 : (wr.setCell ⟨W2.heap.size, e + 1, none⟩ (.int .i64 (m : Int))).cell? ⟨b, off + k * 3 + 2, none⟩ = some (.int .i64 (E k).pos) := (World.cell?_of_block (a := ⟨b, off + k * 3 + 2, none⟩) (Below.heap_setCell _ _ _ _ (by simp; omega))).trans c2
              have y3 : (wr.setCell ⟨W2.heap.size, e + 1, none⟩ (.int .i64 (m : Int))).cell? ⟨W1.heap.size + 1, k, none⟩ = some (.int .i64 (toR E n 0 k)) := (World.cell?_of_block (a := ⟨W1.heap.size + 1, k, none⟩) (Below.heap_setCell _ _ _ _ (by simp; omega))).trans hTR
              have y4 : (wr.setCell ⟨W2.heap.size, e + 1, none⟩ (.int .i64 (m : Int))).cell? ⟨db, dof + k, none⟩ = some (.int .i64 ((e : Int) + 1)) := (World.cell?_of_block (a := ⟨db, dof + k, none⟩) (Below.heap_setCell _ _ _ _ (by simp; omega))).trans d0
              have y5 := hY.cell (i := e) (by omega)
              have HTO : Hid (toR E n 0 k = fin_ E n (n - k) (opn E k + 1)) := by show _ = _; unfold toR; rw [if_pos ⟨Nat.zero_le _, hcl⟩]
              have HLA : Hid (las E (k + 1) (e : Int) = las E k (opn E k)) := by show _ = _; rw [las_open hcl, he, if_neg (by omega)]
              have HNU : Hid (num E (k + 1) = m + 1 ∧ rowS E n (k + 1) = rowS E n k ++ ndv (ndS E n k)) := ⟨by rw [num_open E hcl, HM.out], rowS_open hcl⟩
              have HR2 : Hid (OwnR (W2.heap.size + 1) W2 (wr.setCell ⟨W2.heap.size, e + 1, none⟩ (.int .i64 (m : Int))) (.slice oa m oc) m (rowS E n k)) := hR.under _ _ _ (Nat.le_refl _) (by omega)
              have HYR : Hid ((wr.setCell ⟨W2.heap.size, e + 1, none⟩ (.int .i64 (m : Int))).rowIs W2.heap.size 3 (n + 2) (fun d => .int .i64 (las E (k + 1) (d : Int)))) := hY
              have HND : Hid ((⟨(E k).kind, (E k).arg, (E k).pos, toR E n 0 k, las E (k + 1) (e : Int)⟩ : NdD) = ndS E n k) := by show _ = _; unfold ndS; rw [HTO.out, HLA.out]
              generalize toR E n 0 k = tv at *
              generalize las E (k + 1) (e : Int) = pv at *
              clear hrow hR hbel hcl hY he hd hTR
              go_wp2
              generalize wr.setCell ⟨W2.heap.size, e + 1, none⟩ (.int .i64 (m : Int)) = Y at *
              have HZ : Hid (∀ W : World, (∀ b, b < W2.heap.size + 1 → W.heap[b]? = Y.heap[b]?) → W.cell? ⟨b, off + k * 3, none⟩ = some (.int .i64 (E k).kind) ∧ W.cell? ⟨b, off + k * 3 + 1, none⟩ = some (.int .i64 (E k).arg) ∧ W.cell? ⟨b, off + k * 3 + 2, none⟩ = some (.int .i64 (E k).pos) ∧ W.cell? ⟨W1.heap.size + 1, k, none⟩ = some (.int .i64 tv) ∧ W.cell? ⟨db, dof + k, none⟩ = some (.int .i64 ((e : Int) + 1)) ∧ W.cell? ⟨W2.heap.size, e, none⟩ = some (.int .i64 pv)) := fun W hW =>
                ⟨(World.cell?_of_block (a := ⟨b, off + k * 3, none⟩) (hW b (by omega))).trans y0, (World.cell?_of_block (a := ⟨b, off + k * 3 + 1, none⟩) (hW b (by omega))).trans y1, (World.cell?_of_block (a := ⟨b, off + k * 3 + 2, none⟩) (hW b (by omega))).trans y2, (World.cell?_of_block (a := ⟨W1.heap.size + 1, k, none⟩) (hW (W1.heap.size + 1) (by omega))).trans y3, (World.cell?_of_block (a := ⟨db, dof + k, none⟩) (hW db (by omega))).trans y4, (World.cell?_of_block (a := ⟨W2.heap.size, e, none⟩) (hW W2.heap.size (by omega))).trans y5⟩
              have lY : W2.heap.size < Y.heap.size := lt_of_cell y5
              go_region_held3 (fun W' => W'.cell? ⟨b, off + k * 3, none⟩ = some (.int .i64 (E k).kind) ∧ W'.cell? ⟨b, off + k * 3 + 1, none⟩ = some (.int .i64 (E k).arg) ∧ W'.cell? ⟨b, off + k * 3 + 2, none⟩ = some (.int .i64 (E k).pos) ∧ W'.cell? ⟨W1.heap.size + 1, k, none⟩ = some (.int .i64 tv) ∧ W'.cell? ⟨db, dof + k, none⟩ = some (.int .i64 ((e : Int) + 1)) ∧ W'.cell? ⟨W2.heap.size, e, none⟩ = some (.int .i64 pv))
                (first | exact HZ.out _ G2.out | exact ⟨y0, y1, y2, y3, y4, y5⟩ | go_keep)
                (first
                  | (refine nodeT rfl (.tmp 83) (.tmp 112) rfl (w1 := Y.drew) (v := .slice oa m oc) (y := .slice (some ⟨Y.heap.size, 0, none⟩) 1 1) (d := ⟨(E k).kind, (E k).arg, (E k).pos, tv, pv⟩) (by simp [Act.eval, Act.put]) (by simp [Act.eval, Act.put]) rfl rfl (HR2.out.later (Below.refl _ Y).drew) (by omega) ?_
                     intro W4 a4 c4 G1 G2))
              all_goals go_goals
              all_goals go_wp2
              all_goals go_roundw
              case rel =>
                have hst : b2I W2 n E (.slice a4 (m + 1) c4) (.int .i64 ((k : Int) + 1)) W4 := by
                  refine ⟨k + 1, by omega, by go_num, HYR.out.of_block (G2.out _ (by omega)), ?_⟩
                  rw [HNU.out.1, HNU.out.2, ← HND.out]
                  exact G1.out
                first | exact hst | ((repeat apply Exists.intro); exact ⟨hst, rfl⟩)
              case measure => first | (simp [intOf]; done) | (simp [intOf]; omega)
          · obtain rfl : k = n := by omega
            have HN : Hid (TreeIs E k w (.returned (.tuple #[.slice oa m oc, .int .i64 0])) wr) := by
              obtain ⟨P, ho, hp, q1, q2, hb⟩ := hR
              have h1 := HB1.out.size
              refine ⟨bel_tr HB1.out hbel, .inl ⟨HW.out, oa, oc, by rw [HM.out], ?_⟩⟩
              rw [HM.out]
              exact ownC_wide ho (fun b hb => ⟨by have := (hp b hb).1; omega, (hp b hb).2⟩)
            clear hrow hR hbel
            go_wp2
            refine bodyPost_ret (by simp [results, Try.f49, go_sem]; rfl) rfl ?_
            exact HN.out
      · obtain ⟨j, rfl⟩ : ∃ j, k = j + 1 := ⟨k - 1, by omega⟩
        rw [show ((j + 1 : Nat) : Int) - 1 = (j : Int) by omega]
        have hE := (HE.out.later B1.out).later hbel
        rcases hE with h0 | ⟨b, off, rfl, hq, hE⟩
        · omega
        have hDD := HD.out.later hbel
        rcases hDD with h0 | ⟨db, dof, rfl, hdq, hDD⟩
        · omega
        obtain ⟨c0, c1, c2⟩ := hE j (by omega)
        have e0 := hDD j (by omega)
        have o1 := opn_le E j
        have o2 := opn_ge (HW.out.1.less (show j ≤ n by omega))
        have o3 := opn_ge (HW.out.1.less hk)
        have lb := lt_of_cell c0
        have ldb := lt_of_cell e0
        have hj0 : (0 : Int) ≤ (j : Int) := by omega
        have hjn : (j : Int) < (n : Int) := by omega
        have l1 : W1.heap.size < wr.heap.size := by omega
        have l2 : W1.heap.size + 1 < wr.heap.size := by omega
        clear hE hDD c1
        cases hc : ((E j).kind == 2) with
        | true =>
          have hcl : cls E j = true := hc
          obtain ⟨d, hd⟩ : ∃ d : Nat, dpt E j = (d : Int) := ⟨(dpt E j).toNat, by rw [dpt, hcl]; simp; omega⟩
          have hd2 : d ≤ n := by have : dpt E j = opn E j := by rw [dpt, hcl]; rfl
                                 omega
          have HST : Hid (b1I W1 n E (.int .i64 ((j : Int) - 1)) (wr.drew.setCell ⟨W1.heap.size, d, none⟩ (.int .i64 (E j).pos))) := b1_close hk hcl hd hr1.drew hr2.drew hbel.drew hsz
          rw [hd] at e0
          have r1 := hr1.cell (i := d) (by omega)
          have f1 := hr1.frozen d
          have hdn : (d : Int) < (n : Int) + 2 := by omega
          clear hr1 hr2 hbel hsz hcl hd
          go_wp2
          go_region
          all_goals go_wp2
          all_goals go_roundw
          case rel => exact HST.out
          case measure => first | (simp [intOf]; done) | (simp [intOf]; omega)
        | false =>
          have hcl : cls E j = false := hc
          obtain ⟨d, hd⟩ : ∃ d : Nat, dpt E j = (d : Int) := ⟨(dpt E j).toNat, by rw [dpt, hcl]; simp; omega⟩
          have hd2 : d ≤ n := by have : dpt E j = opn E j + 1 := by rw [dpt, hcl]; rfl
                                 omega
          have HST : Hid (b1I W1 n E (.int .i64 ((j : Int) - 1)) (wr.setCell ⟨W1.heap.size + 1, j, none⟩ (.int .i64 (fin_ E n (n - (j + 1)) (d : Int))))) := b1_open hk hcl hd hr1 hr2 hbel hsz
          rw [hd] at e0
          have r1 := hr1.cell (i := d) (by omega)
          have r2 := hr2.cell (i := j) (by omega)
          have f2 := hr2.frozen j
          have hdn : (d : Int) < (n : Int) + 2 := by omega
          clear hr1 hr2 hbel hsz hcl hd
          go_wp2
          go_roundw
          case rel => exact HST.out
          case measure => first | (simp [intOf]; done) | (simp [intOf]; omega)

end Go.Proofs.Ytcmcbemcfjbchab
