import Derived.Test.YteoddjobpmmgeaaGreatRows
import Derived.Test.YteoddjobpmmgeaaGreatT54
import Derived.WalkKit
import Derived.ProofKit
import Derived.OpenShut
import Derived.Deep.Slices
import Derived.Deep.Strs
import Derived.ShutString
import Derived.ChangeOld
import Derived.Deep.RegionWith
set_option linter.unusedVariables false
set_option linter.unusedSimpArgs false
namespace Go.Proofs.YteoddjobpmmgeaaGreat
section
open Go.RowKit
theorem lawBig (a : Option Addr) (n c : Nat) (w : World) (hb : 1048576 < n) (hn : n ≤ 9223372036854775807) : Calls Tryz.prog 3 #[.slice a n c] w fun e w' => e = .returned (.bool true) ∧ Below w.heap.size w w' := by
  have hbig : ((1048576 : Int) < (n : Int)) := by omega
  go_enter Tryz.func3, Tryz.ntmps3
  go_wp2
  all_goals (go_ret; exact ⟨by simp, Below.refl _ _⟩)
theorem lawAll (a : Option Addr) (n c : Nat) (S : Nat → Int) (w : World) (hS : Ints (fun _ => True) .u8 w a n S) (hB : Byt n S) (hn : n ≤ 9223372036854775807) : Calls Tryz.prog 3 #[.slice a n c] w fun e w' => e = .returned (.bool true) ∧ Below w.heap.size w w' := by
  by_cases hb : 1048576 < n
  · exact lawBig a n c w hb hn
  · refine lawWalk ⟨n, fun i => if i < n then S i else 0, fun i => ?_, by omega⟩ a c w ?_
    · by_cases hi : i < n
      · rw [if_pos hi]
        have := hB i hi
        omega
      · rw [if_neg hi]
        omega
    · by_cases h0 : n = 0
      · exact .inl h0
      · rcases hS with h | ⟨b, off, rfl, _, hc⟩
        · exact absurd h h0
        · refine .inr ⟨b, off, rfl, lt_of_cell (hc 0 (by omega)), fun i hi => ?_⟩
          have hi' : i < n := hi
          show _ = some (Value.int .u8 (if i < n then S i else 0))
          rw [if_pos hi']
          exact hc i hi'
end
namespace fnExactParseGrammar
open Go.ChangeShapes Go.WideShapes Go.ChangeAt Go.RowKit Go.Deep
theorem own : ownKnob Tryz.prog.godebug = none := by kernel_rfl
theorem laidOut : laidOutB Tryz.prog = true := by kernel_rfl
theorem cellsU8 : Tryz.prog.cellsOf 5 = 1 := by kernel_rfl
theorem add_at (b off i : Nat) : (⟨b, off, none⟩ : Addr).add i = ⟨b, off + i, none⟩ := by
  by_cases h0 : i = 0
  · subst h0; simp [Addr.add]
  · simp [Addr.add, h0]
theorem arg_bytes {H : Type} {enc : TypeId × Value → H} {w : World} {base : Nat} {spare : Nat → Bool} {held : Bool} {fuel : Nat} {cs : List Value} {x : DataW H × List MemPlace} (h : DataW.trod enc Tryz.prog w base spare held fuel 22 cs = some x) :
    ∃ a n c S, cs = [.slice a n c] ∧ Ints (fun _ => True) .u8 w a n S ∧ n ≤ 9223372036854775807 ∧ Byt n S := by
  rcases open_ints Tryz.underlying22 Tryz.underlying5 cellsU8 h with ⟨rfl, _⟩ | ⟨a, len, cap, zs, rfl, _, hl, hm, hz, _, hcell, hwf⟩
  · exact ⟨none, 0, 0, fun _ => 0, rfl, .inl rfl, by omega, (fun i hi => by omega)⟩
  · have hle : len ≤ zs.length := by rw [hz]; split <;> omega
    have hmx : len ≤ 9223372036854775807 := by have := hm; unfold maxLen at this; omega
    refine ⟨some a, len, cap, fun i => zs.getD i 0, rfl, ?_, hmx, (fun i hi => ?_)⟩
    · by_cases h0 : len = 0
      · exact .inl h0
      · obtain ⟨b, off, spot⟩ := a
        have hc0 := hcell 0 (by omega)
        have hspot : spot = none := by simpa [Addr.add] using World.cell?_spot hc0
        subst hspot
        refine .inr ⟨b, off, rfl, trivial, fun i hi => ?_⟩
        have := hcell i (by omega)
        rwa [add_at] at this
    · have hi' : i < zs.length := by omega
      have : zs.getD i 0 ∈ zs := by
        rw [List.getD_eq_getElem?_getD, List.getElem?_eq_getElem hi']
        exact List.getElem_mem hi'
      exact bounds_u8 (hwf _ this)
set_option maxRecDepth 100000 in
theorem lifted (os : Os) (started : os.Started) (H : Type) (enc : TypeId × Value → H) :
    ReturnsInHanded {} Tryz.checked os 3 .any (Rows.fnExactParseGrammarSpec.pre6 enc Tryz.prog Tryz.f3 Rows.fnExactParseGrammarRow.domain false) (Rows.fnExactParseGrammarSpec.post enc Tryz.prog Tryz.f3 false true false false) := by
  refine returnsInHanded_of_change (C := Tryz.checked) own started (by kernel_rfl) Tryz.func3
    (ChangeSpec.witness6 (enc := enc) (C := Tryz.checked) false ⟨#[], #[.slice none 0 0], []⟩ 8 (by kernel_rfl) (by kernel_rfl) (by kernel_rfl) (by kernel_rfl)) ?_
  intro W base args ds gs before hval0 hW hcnd _
  have hval : ∀ (j : Nat) t v, Tryz.f3.params[j]? = some t → args[j]? = some v → Value.okWide Tryz.prog W .any base t v := hval0
  have hW' := hW
  obtain ⟨p, q, hA0, hV, rfl, hfz, hnd⟩ := hW
  have hA : DataW.TrodAll enc Tryz.prog W 0 (fun _ => true) true Tryz.f3.params.toList args.toList ds p := hA0
  rw [Tryz.params3] at hA hval
  obtain ⟨v0, vs0, d0, ds0, p0, q0, hargs, rfl, rfl, h0, r0⟩ := trodAll_cons hA
  obtain ⟨rfl, rfl, rfl⟩ := trodAll_nil r0
  obtain rfl : args = #[v0] := by cases args; simp_all
  obtain ⟨rfl, rfl⟩ := trodVars_none hV
  obtain ⟨a0, len0, cap0, rfl⟩ := okWide_slice Tryz.underlying22 (hval 0 22 v0 rfl rfl)
  have k0 := h0
  have lt0 : ∀ x ∈ p0, x.block < W.heap.size := by obtain ⟨m, hm⟩ := k0; exact DataW.trod_lt m _ _ _ hm
  obtain ⟨S, hS, hn, hB⟩ : ∃ S : Nat → Int, Ints (fun _ => True) .u8 W a0 len0 S ∧ len0 ≤ 9223372036854775807 ∧ Byt len0 S := by
    obtain ⟨fuel, hf⟩ := h0
    obtain ⟨a, n, c, S, e, hS, hn, hB⟩ := arg_bytes hf
    simp [Value.cells] at e
    obtain ⟨rfl, rfl, rfl⟩ := e
    exact ⟨S, hS, hn, hB⟩
  clear hA0 hval0
  refine (lawAll a0 len0 cap0 S W hS hB hn).mono fun e W' ⟨he, bel⟩ => ?_
  subst he
  exact ⟨_, rfl, _, _, _, [], _, [], hW', trodAll_mk1 (shut_bool Tryz.underlying4 _), (trodAll_cons_mk (Below.trod laidOut (by kernel_rfl) (of_decide_eq_true (by kernel_rfl)) k0 bel lt0) trodAll_mk0), rfl, bel.frame _, fun h => by cases h⟩
theorem over : Rows.fnExactParseGrammarRow.holds Tryz.pinned (OpenSpec.ofChange Rows.fnExactParseGrammarSpec) :=
  OpenClaim.holds_of_wide 3 Tryz.f3 rfl rfl rfl rfl rfl rfl rfl ⟨rfl, rfl, rfl, rfl, rfl⟩ rfl rfl rfl rfl rfl (by kernel_rfl) Tryz.func3 (by kernel_rfl)
    (of_decide_eq_true (by kernel_rfl)) (by unfold Func.isWrapper; first | (rw [if_pos (by decide +kernel)]; kernel_rfl) | (rw [if_neg (by decide +kernel)]; exact ⟨rfl, rfl⟩))
    (fun os started H enc _ => lifted os started H enc)
end fnExactParseGrammar
section
theorem fnExactParseGrammar_holds : Rows.FnExactParseGrammarSaid := fnExactParseGrammar.over
end
end Go.Proofs.YteoddjobpmmgeaaGreat
