/-
  The law FnExactCharLen: the frame as the guide's program writes it, the walk by hand.
-/
import Derived.Test.YtkhnaogchkakpaaRows
import Derived.WalkKit
import Derived.ProofKit
import Derived.OpenShut
import Derived.ShutString
import Derived.ChangeOld
import Derived.Below
import Derived.Test.YtkhnaogchkakpaaCopy
namespace Go.Proofs.Ytkhnaogchkakpaa.fnExactCharLen
open Go.ChangeShapes Go.WideShapes Go.ChangeAt Go.RowKit
open Go.ChangeMaps (open_string shut_string)
set_option linter.unusedVariables false

theorem own : ownKnob Try.prog.godebug = none := by kernel_rfl
theorem laidOut : laidOutB Try.prog = true := by kernel_rfl

/-- WHAT THE WALK IS TOLD OF A SLICE OF INTEGERS THAT CAME IN: it is nil; or it leads to a row of 'cap' cells, the numbers 'zs' (the first 'len' are its elements, the rest its spare room), each fitting its kind. -/
def IsRow (k : IntKind) (w : World) (a : Option Addr) (len cap : Nat) (zs : List Int) : Prop :=
  (a = none ∧ len = 0 ∧ cap = 0 ∧ zs = []) ∨
  ∃ x, a = some x ∧ len ≤ cap ∧ cap ≤ maxLen ∧ zs.length = cap ∧ (∀ i, i < zs.length → w.cell? (x.add i) = some (.int k (zs.getD i 0))) ∧ ∀ n ∈ zs, (Lit.int k n).wf = true

/-! ### STEP 1: THE WALK: the Go text returns true, AND WRITES NOTHING THAT WAS THERE: 'Below w.heap.size w w'' (Derived/Below.lean: '.refl', '.alloc', '.drew', '.setCell' at a new block, '.trans'). Open each 'IsRow' by 'rcases' AHEAD of 'go_enter'; part every test ahead of the walk. -/
theorem argT_of_row {w : World} {a : Option Addr} {len cap : Nat} {zs : List Int} (h : IsRow .u8 w a len cap zs) : ∃ T : Nat → Int, ArgT w a len T ∧ ∀ i, 0 ≤ T i ∧ T i ≤ 255 := by
  rcases h with ⟨rfl, rfl, rfl, rfl⟩ | ⟨x, rfl, hl, hm, hz, hcell, hwz⟩
  · exact ⟨fun _ => 0, .inl rfl, fun _ => ⟨Int.le_refl 0, by show (0 : Int) ≤ 255; omega⟩⟩
  · refine ⟨fun i => zs.getD i 0, ?_, fun i => ?_⟩
    · by_cases h0 : len = 0
      · exact .inl h0
      · obtain ⟨b, off, spot⟩ := x
        have hc := hcell 0 (by omega)
        have hspot : spot = none := by simpa [Addr.add] using World.cell?_spot hc
        subst hspot
        refine .inr ⟨b, off, rfl, fun i hi => ?_⟩
        have h := hcell i (by omega)
        have e : (⟨b, off, none⟩ : Addr).add i = ⟨b, off + i, none⟩ := by
          by_cases h0 : i = 0
          · subst h0; simp [Addr.add]
          · simp [Addr.add, h0]
        rw [e] at h
        exact h
    · have := range_u8 hwz i
      simpa using this

set_option maxHeartbeats 2000000 in
theorem walk (a0 : Option Addr) (len0 cap0 : Nat) (z0 : List Int) (a1 : Int) (w : World) (w0 : IsRow .u8 w a0 len0 cap0 z0) (w1 : (Lit.int .i64 a1).wf = true) :
    Calls Try.prog 4 #[.slice a0 len0 cap0, .int .i64 a1] w fun e w' => e = .returned (.bool true) ∧ Below w.heap.size w w' := by
  by_cases hbig : 1048576 < len0
  · have hd : (1048576 : Int) < (len0 : Int) := by omega
    go_enter Try.func4, Try.ntmps4
    go_wp2
    go_ret
    exact ⟨rfl, Below.refl _ _⟩
  · have hn : len0 ≤ 1048576 := by omega
    have hd : ¬ ((1048576 : Int) < (len0 : Int)) := by omega
    obtain ⟨T, hT, hb⟩ := argT_of_row w0
    by_cases hq : a1 < 0 ∨ (len0 : Int) ≤ a1
    · have HQ : Hid (a1 < 0 ∨ (len0 : Int) ≤ a1) := hq
      clear hq
      go_enter Try.func4, Try.ntmps4
      go_wp2_with fail
      refine (toByteS_any a0 len0 cap0 T _ hT hb hn).mono ?_
      rintro e W1 ⟨rfl, hr1, hb1, hs1⟩
      have H1 : Hid _ := hs1
      clear hs1
      go_wp2_with fail
      refine (scharLen_out _ len0 len0 a1 _ hn HQ.out).mono ?_
      rintro e W1' ⟨rfl, rfl⟩
      go_wp2_with fail
      refine (toByteS_any a0 len0 cap0 T _ (hT.later hb1) hb hn).mono ?_
      rintro e W2 ⟨rfl, hr2, hb2, hs2⟩
      have H2 : Hid _ := hs2
      clear hs2
      go_wp2_with fail
      refine (charLen_out _ len0 len0 a1 _ hn HQ.out).mono ?_
      rintro e W2' ⟨rfl, rfl⟩
      go_wp2_with fail
      refine (toByteS_any a0 len0 cap0 T _ ((hT.later hb1).later hb2) hb hn).mono ?_
      rintro e W3 ⟨rfl, hr3, hb3, hs3⟩
      have H3 : Hid _ := hs3
      clear hs3
      go_wp2_with fail
      refine (eqByteS_same _ 0 len0 _ 0 len0 len0 T _ (rowTx (hr2.of_block (hb3.block _ (by have := H2.out; omega)))) (rowTx hr3) hb hn).mono ?_
      rintro e W4 ⟨rfl, k, rfl⟩
      go_wp2
      go_ret
      exact ⟨rfl, below_drewN (hb1.trans ((hb2.mono hb1.size).trans (hb3.mono (Nat.le_trans hb1.size hb2.size)))) _⟩
    · obtain ⟨p, rfl⟩ := Int.eq_ofNat_of_zero_le (show 0 ≤ a1 by omega)
      have hp : p < len0 := by omega
      clear hq
      have HE : Hid (M.scl T len0 p = M.cl T len0 p) := M.scl_eq T len0 p hp hb
      go_enter Try.func4, Try.ntmps4
      go_wp2_with fail
      refine (toByteS_any a0 len0 cap0 T _ hT hb hn).mono ?_
      rintro e W1 ⟨rfl, hr1, hb1, hs1⟩
      have H1 : Hid _ := hs1
      clear hs1
      go_wp2_with fail
      refine (scharLen_in _ 0 len0 len0 p T _ (rowTx hr1) hb hn hp).mono ?_
      rintro e W1' ⟨rfl, rfl⟩
      rw [HE.out]
      go_wp2_with fail
      refine (toByteS_any a0 len0 cap0 T _ (hT.later hb1) hb hn).mono ?_
      rintro e W2 ⟨rfl, hr2, hb2, hs2⟩
      have H2 : Hid _ := hs2
      clear hs2
      go_wp2_with fail
      refine (charLen_in _ 0 len0 len0 p T _ (rowTx hr2) hb hn (Nat.le_refl _) hp).mono ?_
      rintro e W2' ⟨rfl, rfl⟩
      go_wp2_with fail
      refine (toByteS_any a0 len0 cap0 T _ ((hT.later hb1).later hb2) hb hn).mono ?_
      rintro e W3 ⟨rfl, hr3, hb3, hs3⟩
      have H3 : Hid _ := hs3
      clear hs3
      go_wp2_with fail
      refine (eqByteS_same _ 0 len0 _ 0 len0 len0 T _ (rowTx (hr2.of_block (hb3.block _ (by have := H2.out; omega)))) (rowTx hr3) hb hn).mono ?_
      rintro e W4 ⟨rfl, k, rfl⟩
      go_wp2
      go_ret
      exact ⟨rfl, below_drewN (hb1.trans ((hb2.mono hb1.size).trans (hb3.mono (Nat.le_trans hb1.size hb2.size)))) _⟩

/-! ### THE ROW's STEP: WRITTEN OUT: LEAVE IT -/
set_option maxRecDepth 100000 in
theorem lifted (os : Os) (started : os.Started) (H : Type) (enc : TypeId × Value → H) :
    ReturnsInHanded {} Try.checked os 4 .any (Rows.fnExactCharLenSpec.pre6 enc Try.prog Try.f4 Rows.fnExactCharLenRow.domain false) (Rows.fnExactCharLenSpec.post enc Try.prog Try.f4 false true false false) := by
  refine returnsInHanded_of_change (C := Try.checked) own started (by kernel_rfl) Try.func4
    (ChangeSpec.witness6 (enc := enc) (C := Try.checked) false ⟨#[], #[.slice none 0 0, .int .i64 0], []⟩ 8 (by kernel_rfl) (by kernel_rfl) (by kernel_rfl) (by kernel_rfl)) ?_
  intro W base args ds gs before hval0 hW hcnd _
  have hval : ∀ (j : Nat) t v, Try.f4.params[j]? = some t → args[j]? = some v → Value.okWide Try.prog W .any base t v := hval0
  have hW' := hW
  obtain ⟨p, q, hA0, hV, rfl, hfz, hnd⟩ := hW
  have hA : DataW.TrodAll enc Try.prog W 0 (fun _ => true) true Try.f4.params.toList args.toList ds p := hA0
  rw [Try.params4] at hA hval
  obtain ⟨v0, vs0, d0, ds0, p0, q0, hargs, rfl, rfl, h0, r0⟩ := trodAll_cons hA
  obtain ⟨v1, vs1, d1, ds1, p1, q1, rfl, rfl, rfl, h1, r1⟩ := trodAll_cons r0
  obtain ⟨rfl, rfl, rfl⟩ := trodAll_nil r1
  obtain rfl : args = #[v0, v1] := by cases args; simp_all
  obtain ⟨rfl, rfl⟩ := trodVars_none hV
  obtain ⟨a0, len0, cap0, rfl⟩ := okWide_slice Try.underlying22 (hval 0 22 v0 rfl rfl)
  have k0 := h0
  have lt0 : ∀ x ∈ p0, x.block < W.heap.size := by obtain ⟨m, hm⟩ := k0; exact DataW.trod_lt m _ _ _ hm
  obtain ⟨z0, w0⟩ : ∃ zs, IsRow .u8 W a0 len0 cap0 zs := by
    obtain ⟨fuel, hf⟩ := h0
    rcases open_ints Try.underlying22 Try.underlying5 (by kernel_rfl) hf with ⟨hcs, _⟩ | ⟨x, l, c, zs, hcs, _, hl, hm, hz, _, hcell, hwz⟩
    · simp [Value.cells] at hcs
      obtain ⟨rfl, rfl, rfl⟩ := hcs
      exact ⟨[], .inl ⟨rfl, rfl, rfl, rfl⟩⟩
    · simp [Value.cells] at hcs
      obtain ⟨rfl, rfl, rfl⟩ := hcs
      exact ⟨zs, .inr ⟨_, rfl, hl, hm, by simpa using hz, hcell, hwz⟩⟩
  obtain ⟨a1, rfl, rfl, rfl, w1⟩ := open_int Try.underlying3 (hval 1 3 v1 rfl rfl) h1
  clear hA0 hval0
  refine (walk a0 len0 cap0 z0 a1 W w0 w1).mono fun e W' ⟨he, bel⟩ => ?_
  subst he
  exact ⟨_, rfl, _, _, _, [], _, [], hW', trodAll_mk1 (shut_bool Try.underlying4 _), (trodAll_cons_mk (Below.trod laidOut (by kernel_rfl) (of_decide_eq_true (by kernel_rfl)) k0 bel lt0) (trodAll_cons_mk (shut_int Try.underlying3 w1) trodAll_mk0)), rfl, bel.frame _, fun h => by cases h⟩

theorem over : Rows.fnExactCharLenRow.holds Try.pinned (OpenSpec.ofChange Rows.fnExactCharLenSpec) :=
  OpenClaim.holds_of_wide 4 Try.f4 rfl rfl rfl rfl rfl rfl rfl ⟨rfl, rfl, rfl, rfl, rfl⟩ rfl rfl rfl rfl rfl (by kernel_rfl) Try.func4 (by kernel_rfl)
    (of_decide_eq_true (by kernel_rfl)) (by unfold Func.isWrapper; first | (rw [if_pos (by decide +kernel)]; kernel_rfl) | (rw [if_neg (by decide +kernel)]; exact ⟨rfl, rfl⟩))
    (fun os started H enc _ => lifted os started H enc)

end Go.Proofs.Ytkhnaogchkakpaa.fnExactCharLen
namespace Go.Proofs.Ytkhnaogchkakpaa
/-- The statement. -/
theorem fnExactCharLen_holds : Rows.FnExactCharLenSaid := fnExactCharLen.over
#print axioms fnExactCharLen_holds
end Go.Proofs.Ytkhnaogchkakpaa
