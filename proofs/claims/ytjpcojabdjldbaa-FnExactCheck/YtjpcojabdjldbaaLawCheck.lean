/-
  The law FnExactCheck.
-/
import Derived.Test.YtjpcojabdjldbaaRows
import Derived.Test.YtjpcojabdjldbaaOpen
import Derived.Test.YtjpcojabdjldbaaSame
import Derived.Test.YtjpcojabdjldbaaAnsw
import Derived.Test.YtjpcojabdjldbaaSChk
import Derived.ShutString
import Derived.ChangeOld
import Derived.Deep.RegionWith
namespace Go.Proofs.Ytjpcojabdjldbaa.fnExactCheck
open Go.ChangeShapes Go.WideShapes Go.ChangeAt Go.RowKit
open M (OpD NodeD Gr)
set_option linter.unusedVariables false

theorem own : ownKnob Try.prog.godebug = none := by kernel_rfl
theorem laidOut : laidOutB Try.prog = true := by kernel_rfl

theorem vals {g : Gr} (ra la : Option Addr) (rc lc : Nat) {Q : Nat → Prop} {w : World} (hG : GramA Q w ra la g) (hs : SmallG g) :
    Calls Try.prog 32 #[.agg #[.slice ra g.nr rc, .slice la g.nb lc]] w (ChkIs g w) :=
  check_any Q ra la rc lc g w hG hs (fun hv => values_ok ra la g rc lc hv.r2 hv.l2)

set_option maxRecDepth 100000 in
set_option maxHeartbeats 8000000 in
theorem walk (Q : Nat → Prop) (ra la : Option Addr) (rc lc : Nat) (g : Gr) (w : World) (hG : GramA Q w ra la g) (hB : BigG g) :
    Calls Try.prog 8 #[.agg #[.slice ra g.nr rc, .slice la g.nb lc]] w fun e w' => e = .returned (.bool true) ∧ Below w.heap.size w w' := by
  have HG : Hid (GramA Q w ra la g) := hG
  have HB : Hid (BigG g) := hB
  clear hG hB
  have BX : Hid (∀ W, Below (w.alloc (.cells #[.slice ra g.nr rc, .slice la g.nb lc] 30)).heap.size (w.alloc (.cells #[.slice ra g.nr rc, .slice la g.nb lc] 30)) W → W.cell? ⟨w.heap.size, 0, none⟩ = some (.slice ra g.nr rc) ∧ W.cell? ⟨w.heap.size, 1, none⟩ = some (.slice la g.nb lc)) := fun W hW =>
    ⟨cell_on (cN w.heap.size rfl rfl) hW, cell_on (cN w.heap.size rfl rfl) hW⟩
  go_enter Try.func8, Try.ntmps8
  go_wp2_with fail
  refine (szGrammar_any Q ra la rc lc g 1048576 _ (HG.out.later (bel1 w _)) HB.out (by omega) (by omega)).mono ?_
  rintro e W0 ⟨⟨r, rfl, hr, hp⟩, hb⟩
  obtain ⟨x0, x1⟩ := BX.out W0 hb
  have HP : Hid (0 ≤ r → SmallG g) := hp
  have B0 : Hid (Below w.heap.size w W0) := bel_tr (bel1 w _) hb
  have hs0 : w.heap.size < W0.heap.size := by have := hb.size; simp at this; omega
  clear hp hb
  by_cases hneg : r < 0
  · go_wp2
    go_ret
    exact ⟨rfl, B0.out⟩
  have HS : Hid (SmallG g) := HP.out (by omega)
  go_wp2_with fail
  refine (toGrammar_x Q ra la rc lc g _ (HG.out.later B0.out) HS.out).mono ?_
  rintro e W1 ⟨⟨ra1, rc1, la1, lc1, rfl, hg1⟩, hb, hso⟩
  replace x0 := cell_on x0 hb
  replace x1 := cell_on x1 hb
  have B1 : Hid (Below w.heap.size w W1) := bel_tr B0.out hb
  have G1 : Hid (GramX (New W0 W1) W1 ra1 la1 g) := hg1
  clear hb hso hg1
  go_wp2_with fail
  refine (scheck_any _ ra1 la1 rc1 lc1 g _ G1.out HS.out).mono ?_
  rintro e W2 ⟨⟨a, b, hA, rfl⟩, hb⟩
  replace x0 := cell_on x0 hb
  replace x1 := cell_on x1 hb
  have B2 : Hid (Below w.heap.size w W2) := bel_tr B1.out hb
  have HA : Hid (Ans g a b) := hA
  clear hb hA
  go_wp2_with fail
  refine (toGrammar_any Q ra la rc lc g _ (HG.out.later B2.out) HS.out).mono ?_
  rintro e W3 ⟨⟨ra3, rc3, la3, lc3, rfl, hg3⟩, hb, hso⟩
  replace x0 := cell_on x0 hb
  replace x1 := cell_on x1 hb
  have B3 : Hid (Below w.heap.size w W3) := bel_tr B2.out hb
  have G3 : Hid (GramA (New W2 W3) W3 ra3 la3 g) := hg3
  clear hb hso hg3
  go_wp2_with fail
  have bv3 := bel1 W3 (.cells #[.slice ra3 g.nr rc3, .slice la3 g.nb lc3] 36)
  have y0 : (W3.alloc (.cells #[.slice ra3 g.nr rc3, .slice la3 g.nb lc3] 36)).cell? ⟨W3.heap.size, 0, none⟩ = some (.slice ra3 g.nr rc3) := cN W3.heap.size rfl rfl
  have y1 : (W3.alloc (.cells #[.slice ra3 g.nr rc3, .slice la3 g.nb lc3] 36)).cell? ⟨W3.heap.size, 1, none⟩ = some (.slice la3 g.nb lc3) := cN W3.heap.size rfl rfl
  generalize W3.alloc (.cells #[.slice ra3 g.nr rc3, .slice la3 g.nb lc3] 36) = V3 at *
  refine (vals ra3 la3 rc3 lc3 (G3.out.later bv3) HS.out).mono ?_
  rintro e W4 ⟨⟨a', b', hA', rfl⟩, hb⟩
  obtain ⟨ea, eb⟩ := hA'.unique HA.out
  subst ea
  subst eb
  replace x0 := cell_on (cell_on x0 bv3) hb
  replace x1 := cell_on (cell_on x1 bv3) hb
  replace y0 := cell_on y0 hb
  replace y1 := cell_on y1 hb
  have B34 : Hid (Below W3.heap.size W3 W4) := bel_tr bv3 hb
  have B4 : Hid (Below w.heap.size w W4) := bel_tr B3.out B34.out
  clear hb hA' bv3
  go_wp2
  go_region_with (first | (go_at_call 15; refine (toGrammar_any Q ra la rc lc g _ (HG.out.later (below_drewN B4.out 1)) HS.out).mono ?_; rintro e W6 ⟨⟨ra6, rc6, la6, lc6, rfl, hg6⟩, hb, hso⟩; have u0 := cell_on (w := W4.drewN 1) (a := ⟨W3.heap.size, 0, none⟩) (v := .slice ra3 g.nr rc3) y0 hb; have u1 := cell_on (w := W4.drewN 1) (a := ⟨W3.heap.size, 1, none⟩) (v := .slice la3 g.nb lc3) y1 hb; have B56 : Hid (Below W4.heap.size W4 W6) := (below_drewN (Below.refl _ W4) 1).trans hb; have G6 : Hid (GramA (New (W4.drewN 1) W6) W6 ra6 la6 g) := hg6; clear hb hso hg6) | (go_at_call 17; refine (eqGrammar_same _ _ ra3 ra6 la3 la6 rc3 rc6 lc3 lc6 g _ ((G3.out.later B34.out).later B56.out) G6.out HS.out).mono ?_; rintro e W7 ⟨⟨r7, rfl, hr7⟩, hb⟩; obtain rfl : r7 = true := hr7.2 trivial; have B57 : Hid (Below W4.heap.size W4 W7) := bel_tr B56.out hb; clear hr7 hb))
  all_goals go_wp2
  all_goals go_ret
  all_goals exact ⟨rfl, bel_tr B4.out B57.out⟩

set_option maxRecDepth 100000 in
theorem lifted (os : Os) (started : os.Started) (H : Type) (enc : TypeId × Value → H) :
    ReturnsInHanded {} Try.checked os 8 .any (Rows.fnExactCheckSpec.pre6 enc Try.prog Try.f8 Rows.fnExactCheckRow.domain false) (Rows.fnExactCheckSpec.post enc Try.prog Try.f8 false true false false) := by
  refine returnsInHanded_of_change (C := Try.checked) own started (by kernel_rfl) Try.func8
    (ChangeSpec.witness6 (enc := enc) (C := Try.checked) false ⟨#[], #[.agg #[.slice none 0 0, .slice none 0 0]], []⟩ 8 (by kernel_rfl) (by kernel_rfl) (by kernel_rfl) (by kernel_rfl)) ?_
  intro W base args ds gs before hval0 hW hcnd _
  have hval : ∀ (j : Nat) t v, Try.f8.params[j]? = some t → args[j]? = some v → Value.okWide Try.prog W .any base t v := hval0
  have hW' := hW
  obtain ⟨p, q, hA0, hV, rfl, hfz, hnd⟩ := hW
  have hA : DataW.TrodAll enc Try.prog W 0 (fun _ => true) true Try.f8.params.toList args.toList ds p := hA0
  rw [Try.params8] at hA hval
  obtain ⟨v0, vs0, d0, ds0, p0, q0, hargs, rfl, rfl, h0, r0⟩ := trodAll_cons hA
  obtain ⟨rfl, rfl, rfl⟩ := trodAll_nil r0
  obtain rfl : args = #[v0] := by cases args; simp_all
  obtain ⟨rfl, rfl⟩ := trodVars_none hV
  obtain ⟨cs, rfl, hcs⟩ := okWide_struct Try.underlying30 (hval 0 30 v0 rfl rfl)
  have k0 := h0
  have lt0 : ∀ x ∈ p0, x.block < W.heap.size := by obtain ⟨m, hm⟩ := k0; exact DataW.trod_lt m _ _ _ hm
  obtain ⟨ra, rc, la, lc, g, hcl, hG, hB⟩ : ∃ ra rc la lc, ∃ g : Gr, cs = #[.slice ra g.nr rc, .slice la g.nb lc] ∧ GramA Any W ra la g ∧ BigG g := by
    obtain ⟨fuel, hf⟩ := h0
    obtain ⟨ra, rc, la, lc, g, e, hG, hB⟩ := arg_grammar hf
    refine ⟨ra, rc, la, lc, g, ?_, hG, hB⟩
    have e' : cs.toList = [.slice ra g.nr rc, .slice la g.nb lc] := by simpa [Value.cells] using e
    exact Array.ext' (by simpa using e')
  subst hcl
  clear hA0 hval0
  refine (walk Any ra la rc lc g W hG hB).mono fun e W' ⟨he, bel⟩ => ?_
  subst he
  exact ⟨_, rfl, _, _, _, [], _, [], hW', trodAll_mk1 (shut_bool Try.underlying4 _), (trodAll_cons_mk (Below.trod laidOut (by kernel_rfl) (of_decide_eq_true (by kernel_rfl)) k0 bel lt0) trodAll_mk0), rfl, bel.frame _, fun h => by cases h⟩

theorem over : Rows.fnExactCheckRow.holds Try.pinned (OpenSpec.ofChange Rows.fnExactCheckSpec) :=
  OpenClaim.holds_of_wide 8 Try.f8 rfl rfl rfl rfl rfl rfl rfl ⟨rfl, rfl, rfl, rfl, rfl⟩ rfl rfl rfl rfl rfl (by kernel_rfl) Try.func8 (by kernel_rfl)
    (of_decide_eq_true (by kernel_rfl)) (by unfold Func.isWrapper; first | (rw [if_pos (by decide +kernel)]; kernel_rfl) | (rw [if_neg (by decide +kernel)]; exact ⟨rfl, rfl⟩))
    (fun os started H enc _ => lifted os started H enc)

end Go.Proofs.Ytjpcojabdjldbaa.fnExactCheck
namespace Go.Proofs.Ytjpcojabdjldbaa
/-- The statement. -/
theorem fnExactCheck_holds : Rows.FnExactCheckSaid := fnExactCheck.over
#print axioms fnExactCheck_holds
end Go.Proofs.Ytjpcojabdjldbaa
