/-
  The law FnExactCompile.
-/
import Derived.Test.YtjndcajblpgjmaaRows
import Derived.Test.YtjndcajblpgjmaaOpen
import Derived.Test.YtjndcajblpgjmaaCMark
import Derived.ShutString
import Derived.ChangeOld
import Derived.Deep.RegionWith
namespace Go.Proofs.Ytjndcajblpgjmaa.fnExactCompile
open Go.ChangeShapes Go.WideShapes Go.ChangeAt Go.RowKit
open M (OpD NodeD Gr InsD)
set_option linter.unusedVariables false

theorem own : ownKnob Try.prog.godebug = none := by kernel_rfl
theorem laidOut : laidOutB Try.prog = true := by kernel_rfl
theorem keepC {w w' : World} {b o : Nat} {v : Value} (h : w.cell? ⟨b, o, none⟩ = some v) (k : w'.heap[b]? = w.heap[b]?) : w'.cell? ⟨b, o, none⟩ = some v := (World.cell?_of_block (a := ⟨b, o, none⟩) k).trans h

set_option maxRecDepth 100000 in
set_option maxHeartbeats 8000000 in
theorem walk (Q : Nat → Prop) (ra la : Option Addr) (rc lc : Nat) (g : Gr) (w : World) (hG : GramA Q w ra la g) (hB : BigG g) :
    Calls Try.prog 9 #[.agg #[.slice ra g.nr rc, .slice la g.nb lc]] w fun e w' => e = .returned (.bool true) ∧ Below w.heap.size w w' := by
  have HG : Hid (GramA Q w ra la g) := hG
  have HB : Hid (BigG g) := hB
  clear hG hB
  have BX : Hid (∀ W, Below (w.alloc (.cells #[.slice ra g.nr rc, .slice la g.nb lc] 30)).heap.size (w.alloc (.cells #[.slice ra g.nr rc, .slice la g.nb lc] 30)) W → W.cell? ⟨w.heap.size, 0, none⟩ = some (.slice ra g.nr rc) ∧ W.cell? ⟨w.heap.size, 1, none⟩ = some (.slice la g.nb lc)) := fun W hW =>
    ⟨cell_on (cN w.heap.size rfl rfl) hW, cell_on (cN w.heap.size rfl rfl) hW⟩
  obtain ⟨n, z, R, hTx⟩ := prog_some g
  have HTX : Hid (ProgIs g n z R) := hTx
  have tz := ine z
  clear hTx
  go_enter Try.func9, Try.ntmps9
  go_wp2_with fail
  refine (szGrammar_any Q ra la rc lc g 1048576 _ (HG.out.later (bel1 w _)) HB.out (by omega) (by omega)).mono ?_
  rintro e W0 ⟨⟨r, rfl, hr⟩, hb⟩
  obtain ⟨x0, x1⟩ := BX.out W0 hb
  have HP : Hid (0 ≤ r → SmallG g) := hr.2
  have B0 : Hid (Below w.heap.size w W0) := bel_tr (bel1 w _) hb
  have hs0 : w.heap.size < W0.heap.size := by have := hb.size; simp at this; omega
  have hr1 := hr.1
  clear hr hb
  by_cases hneg : r < 0
  · go_wp2
    go_ret
    exact ⟨rfl, B0.out⟩
  have HS : Hid (SmallG g) := HP.out (by omega)
  have hn5 : n ≤ 5000 := (HTX.out.small HS.out).1
  have HSL : Hid (∀ i, i < n → (R i).sl ≤ 1048576) := (HTX.out.small HS.out).2
  go_wp2_with fail
  refine (toGrammar_x Q ra la rc lc g _ (HG.out.later B0.out) HS.out).mono ?_
  rintro e W1 ⟨⟨ra1, rc1, la1, lc1, rfl, hg1⟩, hb, hso⟩
  replace x0 := cell_on x0 hb
  replace x1 := cell_on x1 hb
  have hs1 := hb.size
  have B1 : Hid (Below w.heap.size w W1) := bel_tr B0.out hb
  have G1 : Hid (GramX (New W0 W1) W1 ra1 la1 g) := hg1
  clear hb hso hg1
  go_wp2_with fail
  refine (scompile_any _ ra1 la1 rc1 lc1 g n z R _ G1.out HS.out HTX.out).mono ?_
  rintro e W2 ⟨a2, c2, rfl, hg2, hb⟩
  replace x0 := cell_on x0 hb
  replace x1 := cell_on x1 hb
  have hs2 := hb.size
  have B2 : Hid (Below w.heap.size w W2) := bel_tr B1.out hb
  have G2 : Hid (InsA (New W1 W2) W2 a2 n R) := hg2
  clear hb hg2
  go_wp2_with fail
  refine (toGrammar_x Q ra la rc lc g _ (HG.out.later B2.out) HS.out).mono ?_
  rintro e W3 ⟨⟨ra3, rc3, la3, lc3, rfl, hg3⟩, hb, hso⟩
  replace x0 := cell_on x0 hb
  replace x1 := cell_on x1 hb
  have hs3 := hb.size
  have B23 : Hid (Below W2.heap.size W2 W3) := hb
  have B3 : Hid (Below w.heap.size w W3) := bel_tr B2.out hb
  have G3 : Hid (GramX (New W2 W3) W3 ra3 la3 g) := hg3
  have S3 : Hid (Soft W2 W3) := hso
  clear hb hso hg3
  go_wp2_with fail
  have bv3 := bel1 W3 (.cells #[.slice ra3 g.nr rc3, .slice la3 g.nb lc3] 36)
  have sv3 : (W3.alloc (.cells #[.slice ra3 g.nr rc3, .slice la3 g.nb lc3] 36)).heap.size = W3.heap.size + 1 := by simp
  have y0 : (W3.alloc (.cells #[.slice ra3 g.nr rc3, .slice la3 g.nb lc3] 36)).cell? ⟨W3.heap.size, 0, none⟩ = some (.slice ra3 g.nr rc3) := cN W3.heap.size rfl rfl
  have y1 : (W3.alloc (.cells #[.slice ra3 g.nr rc3, .slice la3 g.nb lc3] 36)).cell? ⟨W3.heap.size, 1, none⟩ = some (.slice la3 g.nb lc3) := cN W3.heap.size rfl rfl
  generalize W3.alloc (.cells #[.slice ra3 g.nr rc3, .slice la3 g.nb lc3] 36) = V3 at *
  refine (icompile_any _ ra3 la3 rc3 lc3 g n z R _ (G3.out.later bv3) HS.out HTX.out).mono ?_
  rintro e W4 ⟨a4, c4, rfl, hg4, hb⟩
  have O4 : Hid (Apart (New V3 W4) W4 a4 n R) := hg4
  replace x0 := cell_on (cell_on x0 bv3) hb
  replace x1 := cell_on (cell_on x1 bv3) hb
  replace y0 := cell_on y0 hb
  replace y1 := cell_on y1 hb
  have hs4 := hb.size
  have B34 : Hid (Below W3.heap.size W3 W4) := bel_tr bv3 hb
  have G24 : Hid (InsA (New W1 W2) W4 a2 n R) := (G2.out.later B23.out).later B34.out
  clear hb hg4 bv3
  go_wp2_with fail
  refine (eqInsS_same _ _ a4 a2 n c4 c2 R _ O4.out.ins G24.out (by omega) HSL.out).mono ?_
  rintro e W5 ⟨⟨r5, rfl, hr5⟩, hb⟩
  obtain rfl : r5 = true := hr5.2 trivial
  replace x0 := cell_on x0 hb
  replace x1 := cell_on x1 hb
  replace y0 := cell_on y0 hb
  replace y1 := cell_on y1 hb
  have hs5 := hb.size
  have B45 : Hid (Below W4.heap.size W4 W5) := hb
  have B35 : Hid (Below W3.heap.size W3 W5) := bel_tr B34.out B45.out
  have B5 : Hid (Below w.heap.size w W5) := bel_tr B3.out B35.out
  clear hb hr5
  go_wp2_with fail
  go_region_with (first | (go_at_call 17; refine (toGrammar_any Q ra la rc lc g _ (HG.out.later (below_drewN B5.out 1)) HS.out).mono ?_; rintro e W6 ⟨⟨ra6, rc6, la6, lc6, rfl, hg6⟩, hb, hso⟩; have u0 := cell_on (w := W5.drewN 1) (a := ⟨W3.heap.size, 0, none⟩) (v := .slice ra3 g.nr rc3) y0 hb; have u1 := cell_on (w := W5.drewN 1) (a := ⟨W3.heap.size, 1, none⟩) (v := .slice la3 g.nb lc3) y1 hb; have B56 : Hid (Below W5.heap.size W5 W6) := (below_drewN (Below.refl _ W5) 1).trans hb; have G6 : Hid (GramA (New (W5.drewN 1) W6) W6 ra6 la6 g) := hg6; clear hb hso hg6) | (go_at_call 19; refine (eqGrammar_same _ _ ra3 ra6 la3 la6 rc3 rc6 lc3 lc6 g _ ((G3.out.plain.later B35.out).later B56.out) G6.out HS.out).mono ?_; rintro e W7 ⟨⟨r7, rfl, hr7⟩, hb⟩; obtain rfl : r7 = true := hr7.2 trivial; have B57 : Hid (Below W5.heap.size W5 W7) := bel_tr B56.out hb; clear hr7 hb))
  all_goals (
    have B7 : Hid (Below w.heap.size w W7) := bel_tr B5.out B57.out
    have B47 : Hid (Below W4.heap.size W4 W7) := bel_tr B45.out B57.out
    have G27 : Hid (InsA (New W1 W2) W7 a2 n R) := (G24.out.later B45.out).later B57.out
    have G37 : Hid (GramA (New W2 W3) W7 ra3 la3 g) := (G3.out.plain.later B35.out).later B57.out
    have O7 : Hid (Apart (New V3 W4) W7 a4 n R) := O4.out.on (fun b hb => B47.out.block b hb.2)
    have HF7 : Hid (SoftQ (New W2 W3) W7) := fun b o hb => by
      rw [(bel_tr B35.out B57.out).frozen (p := ⟨b, o, none⟩) hb.2]; exact S3.out b o hb.1 hb.2
    replace x0 := cell_on x0 B57.out
    replace x1 := cell_on x1 B57.out
    replace y0 := cell_on y0 B57.out
    replace y1 := cell_on y1 B57.out
    have hs7 := B57.out.size
    clear u0 u1
    go_wp2_with fail
    refine (markGrammar_shape (New W2 W3) ra3 la3 rc3 lc3 g _ G37.out HS.out HF7.out (fun b hb => by have := hb.2; omega)).mono ?_
    rintro e W8 ⟨⟨k8, rfl, hk8⟩, hs8, ho8, ht8, hu8, hk⟩
    have nq : ∀ b, b < W2.heap.size ∨ W3.heap.size ≤ b → b < W7.heap.size → W8.heap[b]? = W7.heap[b]? := fun b h1 h2 => hk b h2 (fun q => by
      have q1 := q.1
      have q2 := q.2
      omega)
    replace x0 := keepC x0 (nq _ (.inl (by omega)) (by omega))
    replace x1 := keepC x1 (nq _ (.inl (by omega)) (by omega))
    have B8 : Hid (Below w.heap.size w W8) := ⟨ho8.trans B7.out.os, ht8.trans B7.out.tape, hu8.trans B7.out.output, Nat.le_trans B7.out.size hs8, fun b hb => (nq b (.inl (by omega)) (by omega)).trans (B7.out.block b hb)⟩
    have G28 : Hid (InsA (New W1 W2) W8 a2 n R) := G27.out.on (fun b hb => nq b (.inl hb.2) (by have := hb.2; omega))
    have O8 : Hid (Apart (New V3 W4) W8 a4 n R) := O7.out.on (fun b hb => nq b (.inr (by have := hb.1; omega)) (by have := hb.2; omega))
    have nk8 : ¬ k8 < 0 := by omega
    clear hk nq ho8 ht8 hu8 y0 y1
    go_wp2_with fail
    refine (eqInsS_same _ _ a4 a2 n c4 c2 R _ O8.out.ins G28.out (by omega) HSL.out).mono ?_
    rintro e W9 ⟨⟨r9, rfl, hr9⟩, hb⟩
    obtain rfl : r9 = true := hr9.2 trivial
    replace x0 := cell_on x0 hb
    replace x1 := cell_on x1 hb
    have hs9 := hb.size
    have B9 : Hid (Below w.heap.size w W9) := bel_tr B8.out hb
    have G29 : Hid (InsA (New W1 W2) W9 a2 n R) := G28.out.later hb
    have O9 : Hid (Apart (New V3 W4) W9 a4 n R) := O8.out.on (fun b hb2 => hb.block b (by have := hb2.2; omega))
    clear hb hr9
    go_wp2_with fail
    refine (markInsS_exact (New V3 W4) a4 n c4 R 1 _ O9.out HSL.out (by omega) (by omega) (by omega)).mono ?_
    rintro e W10 ⟨rfl, hR, hk⟩
    have old : ∀ b, b < V3.heap.size → W10.heap[b]? = W9.heap[b]? := fun b h1 => hk.block b (fun q => by have := q.1; omega)
    replace x0 := keepC x0 (old _ (by omega))
    replace x1 := keepC x1 (old _ (by omega))
    have B10 : Hid (Below w.heap.size w W10) := ⟨hk.os.trans B9.out.os, hk.tape.trans B9.out.tape, hk.output.trans B9.out.output, by rw [hk.size]; exact B9.out.size, fun b hb => (old b (by omega)).trans (B9.out.block b hb)⟩
    have G210 : Hid (InsA (New W1 W2) W10 a2 n R) := G29.out.on (fun b hb => old b (by have := hb.2; omega))
    have HR : Hid (InsA (New V3 W4) W10 a4 n (mkIn 1 R)) := hR
    clear hR hk old
    go_wp2_with fail
    refine (heldInsS_any _ a4 n c4 R 1 _ HR.out HSL.out (by omega) (by omega) (by omega)).mono ?_
    rintro e W11 ⟨rfl, hw⟩
    subst W11
    have nneg : ¬ (1 + (cI R n : Int) < 0) := by omega
    have tm := ine (1 + (cI R n : Int))
    go_wp2_with fail
    refine (toGrammar_x Q ra la rc lc g _ (HG.out.later B10.out) HS.out).mono ?_
    rintro e W12 ⟨⟨ra12, rc12, la12, lc12, rfl, hg12⟩, hb, hso⟩
    have B12 : Hid (Below w.heap.size w W12) := bel_tr B10.out hb
    have G212 : Hid (InsA (New W1 W2) W12 a2 n R) := G210.out.later hb
    have G12 : Hid (GramX (New W10 W12) W12 ra12 la12 g) := hg12
    clear hb hso hg12
    go_wp2_with fail
    refine (icompile_any _ ra12 la12 rc12 lc12 g n z R _ G12.out HS.out HTX.out).mono ?_
    rintro e W13 ⟨a13, c13, rfl, hg13, hb⟩
    have B13 : Hid (Below w.heap.size w W13) := bel_tr B12.out hb
    have G213 : Hid (InsA (New W1 W2) W13 a2 n R) := G212.out.later hb
    have G13 : Hid (InsA (New W12 W13) W13 a13 n R) := hg13.ins
    clear hb hg13
    go_wp2_with fail
    refine (eqInsS_same _ _ a13 a2 n c13 c2 R _ G13.out G213.out (by omega) HSL.out).mono ?_
    rintro e W14 ⟨⟨r14, rfl, hr14⟩, hb⟩
    obtain rfl : r14 = true := hr14.2 trivial
    have B14 : Hid (Below w.heap.size w W14) := bel_tr B13.out hb
    clear hb hr14
    go_wp2
    go_ret
    exact ⟨rfl, B14.out⟩)

set_option maxRecDepth 100000 in
theorem lifted (os : Os) (started : os.Started) (H : Type) (enc : TypeId × Value → H) :
    ReturnsInHanded {} Try.checked os 9 .any (Rows.fnExactCompileSpec.pre6 enc Try.prog Try.f9 Rows.fnExactCompileRow.domain false) (Rows.fnExactCompileSpec.post enc Try.prog Try.f9 false true false false) := by
  refine returnsInHanded_of_change (C := Try.checked) own started (by kernel_rfl) Try.func9
    (ChangeSpec.witness6 (enc := enc) (C := Try.checked) false ⟨#[], #[.agg #[.slice none 0 0, .slice none 0 0]], []⟩ 8 (by kernel_rfl) (by kernel_rfl) (by kernel_rfl) (by kernel_rfl)) ?_
  intro W base args ds gs before hval0 hW hcnd _
  have hval : ∀ (j : Nat) t v, Try.f9.params[j]? = some t → args[j]? = some v → Value.okWide Try.prog W .any base t v := hval0
  have hW' := hW
  obtain ⟨p, q, hA0, hV, rfl, hfz, hnd⟩ := hW
  have hA : DataW.TrodAll enc Try.prog W 0 (fun _ => true) true Try.f9.params.toList args.toList ds p := hA0
  rw [Try.params9] at hA hval
  obtain ⟨v0, vs0, d0, ds0, p0, q0, hargs, rfl, rfl, h0, r0⟩ := trodAll_cons hA
  obtain ⟨rfl, rfl, rfl⟩ := trodAll_nil r0
  obtain rfl : args = #[v0] := by cases args; simp_all
  obtain ⟨rfl, rfl⟩ := trodVars_none hV
  obtain ⟨cs, rfl, hcs⟩ := okWide_struct Try.underlying30 (hval 0 30 v0 rfl rfl)
  have k0 := h0
  have lt0 : ∀ x ∈ p0, x.block < W.heap.size := by obtain ⟨m, hm⟩ := k0; exact DataW.trod_lt m _ _ _ hm
  obtain ⟨ra, rc, la, lc, g, hcl, hG, hB⟩ : ∃ ra rc la lc, ∃ g : Gr, cs = #[.slice ra g.nr rc, .slice la g.nb lc] ∧ GramA Any W ra la g ∧ BigG g := by
    obtain ⟨fuel, hf⟩ := h0
    obtain ⟨ra, rc, la, lc, g, e, hG, hB⟩ := arg_grammar hf
    refine ⟨ra, rc, la, lc, g, ?_, hG, hB⟩
    have e' : cs.toList = [.slice ra g.nr rc, .slice la g.nb lc] := by simpa [Value.cells] using e
    exact Array.ext' (by simpa using e')
  subst hcl
  clear hA0 hval0
  refine (walk Any ra la rc lc g W hG hB).mono fun e W' ⟨he, bel⟩ => ?_
  subst he
  exact ⟨_, rfl, _, _, _, [], _, [], hW', trodAll_mk1 (shut_bool Try.underlying4 _), (trodAll_cons_mk (Below.trod laidOut (by kernel_rfl) (of_decide_eq_true (by kernel_rfl)) k0 bel lt0) trodAll_mk0), rfl, bel.frame _, fun h => by cases h⟩

theorem over : Rows.fnExactCompileRow.holds Try.pinned (OpenSpec.ofChange Rows.fnExactCompileSpec) :=
  OpenClaim.holds_of_wide 9 Try.f9 rfl rfl rfl rfl rfl rfl rfl ⟨rfl, rfl, rfl, rfl, rfl⟩ rfl rfl rfl rfl rfl (by kernel_rfl) Try.func9 (by kernel_rfl)
    (of_decide_eq_true (by kernel_rfl)) (by unfold Func.isWrapper; first | (rw [if_pos (by decide +kernel)]; kernel_rfl) | (rw [if_neg (by decide +kernel)]; exact ⟨rfl, rfl⟩))
    (fun os started H enc _ => lifted os started H enc)

end Go.Proofs.Ytjndcajblpgjmaa.fnExactCompile
namespace Go.Proofs.Ytjndcajblpgjmaa
/-- The statement. -/
theorem fnExactCompile_holds : Rows.FnExactCompileSaid := fnExactCompile.over
#print axioms fnExactCompile_holds
end Go.Proofs.Ytjndcajblpgjmaa
