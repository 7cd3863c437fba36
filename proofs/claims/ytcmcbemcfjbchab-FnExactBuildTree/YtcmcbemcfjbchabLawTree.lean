/-
  The law FnExactBuildTree.
-/
import Derived.Test.YtcmcbemcfjbchabRows
import Derived.Test.YtcmcbemcfjbchabOpen
import Derived.Test.YtcmcbemcfjbchabTGrow
import Derived.ShutString
import Derived.ChangeOld
import Derived.Deep.RegionWith
namespace Go.Proofs.Ytcmcbemcfjbchab.fnExactBuildTree
open Go.ChangeShapes Go.WideShapes Go.ChangeAt Go.RowKit Go.Deep
set_option linter.unusedVariables false

theorem own : ownKnob Try.prog.godebug = none := by kernel_rfl
theorem laidOut : laidOutB Try.prog = true := by kernel_rfl
theorem cellsEv : Try.prog.cellsOf 157 = 3 := by kernel_rfl
section
variable {H : Type} {enc : TypeId × Value → H} {w : World} {base : Nat} {spare : Nat → Bool} {held : Bool}
theorem arg_ev {f : Nat} {cs : List Value} {y : DataW H × List MemPlace} {b o : Nat} (h : DataW.trod enc Try.prog w base spare held f 157 cs = some y) (hl : cs.length = 3) (hc : ∀ j, j < 3 → w.cell? ⟨b, o + j, none⟩ = cs[j]?) :
    ∃ d : EvD, EvC w b o d := by
  obtain ⟨y0, y1, y2, n, _, _, h0, h1, h2⟩ := trod_struct3 Try.underlying157 h
  obtain ⟨v0, v1, v2, rfl⟩ := list3 hl
  simp only [cells3, List.drop_zero, List.take_succ_cons, List.take_zero, List.drop_succ_cons] at h0 h1 h2
  obtain ⟨k, e0, _, _⟩ := DataW.trod_int Try.underlying3 h0
  obtain ⟨g, e1, _, _⟩ := DataW.trod_int Try.underlying3 h1
  obtain ⟨p, e2, _, _⟩ := DataW.trod_int Try.underlying3 h2
  simp only [List.cons.injEq, and_true] at e0 e1 e2
  subst e0 e1 e2
  have c0 := hc 0 (by omega)
  have c1 := hc 1 (by omega)
  have c2 := hc 2 (by omega)
  exact ⟨⟨k, g, p⟩, by simpa using c0, by simpa using c1, by simpa using c2⟩
instance : Inhabited EvD := ⟨⟨0, 0, 0⟩⟩
theorem arg_evs {f : Nat} {cs : List Value} {y : DataW H × List MemPlace} (h : DataW.trod enc Try.prog w base spare held f 66 cs = some y) :
    ∃ a n c, ∃ B : Nat → EvD, cs = [.slice a n c] ∧ EvA Any w a n B ∧ n ≤ 9223372036854775807 := by
  obtain ⟨a, n, c, R, e, hn, hR⟩ := arg_list Try.underlying66 cellsEv (by omega) (fun b o (d : EvD) => EvC w b o d) (fun f cs' y b o h hl hc => arg_ev h hl hc) h
  refine ⟨a, n, c, R, e, ?_, hn⟩
  rcases hR with h0 | ⟨b, off, e, hR⟩
  · exact .inl h0
  · exact .inr ⟨b, off, e, trivial, hR⟩
end

/-- Both answers of BuildTree, as one. -/
def TreeN (m : Nat) (z : Int) (D : Nat → NdD) (w : World) (e : Ending) (w' : World) : Prop := ∃ a c, e = .returned (.tuple #[.slice a m c, .int .i64 z]) ∧ NdA (New w w') w' a m D ∧ Below w.heap.size w w'
theorem tree_some (E : Nat → EvD) (n : Nat) : ∃ m z D, m ≤ n ∧ ∀ w e w', TreeIs E n w e w' → TreeN m z D w e w' := by
  by_cases h : Whole E n
  · refine ⟨num E n, 0, nodesOf E n, num_le E n, fun w e w' q => ?_⟩
    obtain ⟨hb, ⟨_, ta, tc, rfl, ho⟩ | ⟨hn, _⟩⟩ := q
    · exact ⟨ta, tc, rfl, own_nodes ho, hb⟩
    · exact absurd h hn
  · refine ⟨0, 4, fun _ => ⟨0, 0, 0, 0, 0⟩, Nat.zero_le _, fun w e w' q => ?_⟩
    obtain ⟨hb, ⟨hn, _⟩ | ⟨_, rfl⟩⟩ := q
    · exact absurd hn h
    · exact ⟨none, 0, rfl, .inl rfl, hb⟩

set_option maxRecDepth 100000 in
set_option maxHeartbeats 8000000 in
theorem walk (Q : Nat → Prop) (a : Option Addr) (n c : Nat) (E : Nat → EvD) (w : World) (hE : EvA Q w a n E) (hn : n ≤ 9223372036854775807) :
    Calls Try.prog 11 #[.slice a n c] w fun e w' => e = .returned (.bool true) ∧ Below w.heap.size w w' := by
  have HE : Hid (EvA Q w a n E) := hE
  obtain ⟨m, z, D, hm, hT⟩ := tree_some E n
  have HT : Hid (∀ w e w', TreeIs E n w e w' → TreeN m z D w e w') := hT
  have tz := ine z
  clear hE hT
  go_enter Try.func11, Try.ntmps11
  go_wp2_with fail
  refine (szEventS_any a n c 1048576 _ (by omega) (by omega) hn).mono ?_
  rintro e W0 ⟨⟨r, rfl, hr⟩, hb⟩
  have HP : Hid (0 ≤ r → n ≤ 1048576) := hr.2
  have B0 : Hid (Below w.heap.size w W0) := hb
  clear hr hb
  by_cases hneg : r < 0
  · go_wp2
    go_ret
    exact ⟨rfl, B0.out⟩
  have hn2 : n ≤ 1048576 := HP.out (by omega)
  go_wp2_with fail
  refine (toEventS_any Q a n c E _ (HE.out.later B0.out) hn2).mono ?_
  rintro e W1 ⟨⟨a1, c1, rfl, h1⟩, hb, hso⟩
  have B1 : Hid (Below w.heap.size w W1) := bel_tr B0.out hb
  have E1 : Hid (EvA (New W0 W1) W1 a1 n E) := h1.ev
  clear h1 hb hso
  go_wp2_with fail
  refine (sbuild_any _ a1 n c1 E _ E1.out hn2).mono ?_
  intro e W2 ht
  obtain ⟨a2, c2, rfl, hN, hb⟩ := HT.out _ _ _ ht
  have B2 : Hid (Below w.heap.size w W2) := bel_tr B1.out hb
  have N2 : Hid (NdA (New W1 W2) W2 a2 m D) := hN
  clear hN hb ht
  go_wp2_with fail
  refine (toEventS_any Q a n c E _ (HE.out.later B2.out) hn2).mono ?_
  rintro e W3 ⟨⟨a3, c3, rfl, h3⟩, hb, hso⟩
  have B23 : Hid (Below W2.heap.size W2 W3) := hb
  have E3 : Hid (EvW (New W2 W3) W3 a3 n E) := h3
  clear h3 hb hso
  go_wp2_with fail
  refine (ibuild_any _ a3 n c3 E _ E3.out.ev hn2).mono ?_
  intro e W4 ht
  obtain ⟨a4, c4, rfl, hN, hb⟩ := HT.out _ _ _ ht
  have B34 : Hid (Below W3.heap.size W3 W4) := hb
  have N4 : Hid (NdA (New W3 W4) W4 a4 m D) := hN
  have N24 : Hid (NdA (New W1 W2) W4 a2 m D) := (N2.out.later B23.out).later B34.out
  clear hN hb ht
  go_wp2_with fail
  refine (eqNodeS_same _ _ a4 a2 m c4 c2 D _ N4.out N24.out (by omega)).mono ?_
  rintro e W5 ⟨⟨r5, rfl, hr5⟩, hb⟩
  obtain rfl : r5 = true := hr5.2 trivial
  have B45 : Hid (Below W4.heap.size W4 W5) := hb
  have B35 : Hid (Below W3.heap.size W3 W5) := bel_tr B34.out B45.out
  have B5 : Hid (Below w.heap.size w W5) := bel_tr B2.out (bel_tr B23.out B35.out)
  clear hb hr5
  go_wp2_with fail
  refine (toEventS_any Q a n c E _ (HE.out.later B5.out) hn2).mono ?_
  rintro e W6 ⟨⟨a6, c6, rfl, h6⟩, hb, hso⟩
  have B56 : Hid (Below W5.heap.size W5 W6) := hb
  have E6 : Hid (EvA (New W5 W6) W6 a6 n E) := h6.ev
  have E36 : Hid (EvW (New W2 W3) W6 a3 n E) := E3.out.on (fun b hb => (bel_tr B35.out B56.out).block b hb.2)
  clear h6 hb hso
  go_wp2_with fail
  refine (eqEventS_same _ _ a3 a6 n c3 c6 E _ E36.out.ev E6.out hn2).mono ?_
  rintro e W7 ⟨⟨r7, rfl, hr7⟩, hb⟩
  obtain rfl : r7 = true := hr7.2 trivial
  have B47 : Hid (Below W4.heap.size W4 W7) := bel_tr B45.out (bel_tr B56.out hb)
  have B7 : Hid (Below w.heap.size w W7) := bel_tr B5.out (bel_tr B56.out hb)
  have E37 : Hid (EvW (New W2 W3) W7 a3 n E) := E36.out.on (fun x hx => hb.block x (by
    have h1 := hx.2
    have h2 := B35.out.size
    have h3 := B56.out.size
    omega))
  have N27 : Hid (NdA (New W1 W2) W7 a2 m D) := N24.out.later B47.out
  have N47 : Hid (NdA (New W3 W4) W7 a4 m D) := N4.out.later B47.out
  clear hb hr7
  go_wp2_with fail
  refine (markEventS_exact (New W2 W3) a3 n c3 E 1 _ E37.out hn2 (by omega) (by omega)).mono ?_
  rintro e W8 ⟨rfl, hI, hk⟩
  have hs23 := B23.out.size
  have hs34 := B34.out.size
  have B8 : Hid (Below w.heap.size w W8) := ⟨hk.os.trans B7.out.os, hk.tape.trans B7.out.tape, hk.output.trans B7.out.output, by rw [hk.size]; exact B7.out.size, fun b hb => (hk.block b (fun q => by have := q.1; have := B2.out.size; omega)).trans (B7.out.block b hb)⟩
  have N28 : Hid (NdA (New W1 W2) W8 a2 m D) := N27.out.on (fun b hb => hk.block b (fun q => by have := q.1; have := hb.2; omega))
  have N48 : Hid (NdA (New W3 W4) W8 a4 m D) := N47.out.on (fun b hb => hk.block b (fun q => by have := q.2; have := hb.1; omega))
  have nneg : ¬ (1 + 3 * (n : Int) < 0) := by omega
  clear hI hk hs23 hs34
  go_wp2_with fail
  refine (eqNodeS_same _ _ a4 a2 m c4 c2 D _ N48.out N28.out (by omega)).mono ?_
  rintro e W9 ⟨⟨r9, rfl, hr9⟩, hb⟩
  obtain rfl : r9 = true := hr9.2 trivial
  have B9 : Hid (Below w.heap.size w W9) := bel_tr B8.out hb
  have N29 : Hid (NdA (New W1 W2) W9 a2 m D) := N28.out.later hb
  have N49 : Hid (NdA (New W3 W4) W9 a4 m D) := N48.out.later hb
  clear hb hr9
  go_wp2_with fail
  refine (markNodeS_exact (New W3 W4) a4 m c4 D 1 _ N49.out (by omega) (by omega) (by omega)).mono ?_
  rintro e W10 ⟨rfl, hI, hk⟩
  have hs23 := B23.out.size
  have hs2 := B2.out.size
  have B10 : Hid (Below w.heap.size w W10) := ⟨hk.os.trans B9.out.os, hk.tape.trans B9.out.tape, hk.output.trans B9.out.output, by rw [hk.size]; exact B9.out.size, fun b hb => (hk.block b (fun q => by have := q.1; omega)).trans (B9.out.block b hb)⟩
  have N210 : Hid (NdA (New W1 W2) W10 a2 m D) := N29.out.on (fun b hb => hk.block b (fun q => by have := q.1; have := hb.2; omega))
  have M10 : Hid (NdA (New W3 W4) W10 a4 m (mkN 1)) := hI
  clear hI hk hs23 hs2
  go_wp2_with fail
  refine (heldNodeS_any _ a4 m c4 1 _ M10.out (by omega) (by omega) (by omega)).mono ?_
  rintro e W11 ⟨rfl, hw⟩
  subst W11
  have nneg2 : ¬ (1 + 5 * (m : Int) < 0) := by omega
  have tm := ine (1 + 5 * (m : Int))
  go_wp2_with fail
  refine (toEventS_any Q a n c E _ (HE.out.later B10.out) hn2).mono ?_
  rintro e W12 ⟨⟨a12, c12, rfl, h12⟩, hb, hso⟩
  have B12 : Hid (Below w.heap.size w W12) := bel_tr B10.out hb
  have E12 : Hid (EvA (New W10 W12) W12 a12 n E) := h12.ev
  have N212 : Hid (NdA (New W1 W2) W12 a2 m D) := N210.out.later hb
  clear h12 hb hso
  go_wp2_with fail
  refine (ibuild_any _ a12 n c12 E _ E12.out hn2).mono ?_
  intro e W13 ht
  obtain ⟨a13, c13, rfl, hN, hb⟩ := HT.out _ _ _ ht
  have B13 : Hid (Below w.heap.size w W13) := bel_tr B12.out hb
  have N13 : Hid (NdA (New W12 W13) W13 a13 m D) := hN
  have N213 : Hid (NdA (New W1 W2) W13 a2 m D) := N212.out.later hb
  clear hN hb ht
  go_wp2_with fail
  refine (eqNodeS_same _ _ a13 a2 m c13 c2 D _ N13.out N213.out (by omega)).mono ?_
  rintro e W14 ⟨⟨r14, rfl, hr14⟩, hb⟩
  obtain rfl : r14 = true := hr14.2 trivial
  have B14 : Hid (Below w.heap.size w W14) := bel_tr B13.out hb
  clear hb hr14
  go_wp2
  go_ret
  exact ⟨rfl, B14.out⟩

set_option maxRecDepth 100000 in
theorem lifted (os : Os) (started : os.Started) (H : Type) (enc : TypeId × Value → H) :
    ReturnsInHanded {} Try.checked os 11 .any (Rows.fnExactBuildTreeSpec.pre6 enc Try.prog Try.f11 Rows.fnExactBuildTreeRow.domain false) (Rows.fnExactBuildTreeSpec.post enc Try.prog Try.f11 false true false false) := by
  refine returnsInHanded_of_change (C := Try.checked) own started (by kernel_rfl) Try.func11
    (ChangeSpec.witness6 (enc := enc) (C := Try.checked) false ⟨#[], #[.slice none 0 0], []⟩ 8 (by kernel_rfl) (by kernel_rfl) (by kernel_rfl) (by kernel_rfl)) ?_
  intro W base args ds gs before hval0 hW hcnd _
  have hval : ∀ (j : Nat) t v, Try.f11.params[j]? = some t → args[j]? = some v → Value.okWide Try.prog W .any base t v := hval0
  have hW' := hW
  obtain ⟨p, q, hA0, hV, rfl, hfz, hnd⟩ := hW
  have hA : DataW.TrodAll enc Try.prog W 0 (fun _ => true) true Try.f11.params.toList args.toList ds p := hA0
  rw [Try.params11] at hA hval
  obtain ⟨v0, vs0, d0, ds0, p0, q0, hargs, rfl, rfl, h0, r0⟩ := trodAll_cons hA
  obtain ⟨rfl, rfl, rfl⟩ := trodAll_nil r0
  obtain rfl : args = #[v0] := by cases args; simp_all
  obtain ⟨rfl, rfl⟩ := trodVars_none hV
  obtain ⟨a0, len0, cap0, rfl⟩ := okWide_slice Try.underlying66 (hval 0 66 v0 rfl rfl)
  have k0 := h0
  have lt0 : ∀ x ∈ p0, x.block < W.heap.size := by obtain ⟨m, hm⟩ := k0; exact DataW.trod_lt m _ _ _ hm
  obtain ⟨E, hE, hn⟩ : ∃ E : Nat → EvD, EvA Any W a0 len0 E ∧ len0 ≤ 9223372036854775807 := by
    obtain ⟨fuel, hf⟩ := h0
    obtain ⟨a, n, c, E, e, hE, hn⟩ := arg_evs hf
    simp [Value.cells] at e
    obtain ⟨rfl, rfl, rfl⟩ := e
    exact ⟨E, hE, hn⟩
  clear hA0 hval0
  refine (walk Any a0 len0 cap0 E W hE hn).mono fun e W' ⟨he, bel⟩ => ?_
  subst he
  exact ⟨_, rfl, _, _, _, [], _, [], hW', trodAll_mk1 (shut_bool Try.underlying4 _), (trodAll_cons_mk (Below.trod laidOut (by kernel_rfl) (of_decide_eq_true (by kernel_rfl)) k0 bel lt0) trodAll_mk0), rfl, bel.frame _, fun h => by cases h⟩

theorem over : Rows.fnExactBuildTreeRow.holds Try.pinned (OpenSpec.ofChange Rows.fnExactBuildTreeSpec) :=
  OpenClaim.holds_of_wide 11 Try.f11 rfl rfl rfl rfl rfl rfl rfl ⟨rfl, rfl, rfl, rfl, rfl⟩ rfl rfl rfl rfl rfl (by kernel_rfl) Try.func11 (by kernel_rfl)
    (of_decide_eq_true (by kernel_rfl)) (by unfold Func.isWrapper; first | (rw [if_pos (by decide +kernel)]; kernel_rfl) | (rw [if_neg (by decide +kernel)]; exact ⟨rfl, rfl⟩))
    (fun os started H enc _ => lifted os started H enc)

end Go.Proofs.Ytcmcbemcfjbchab.fnExactBuildTree
namespace Go.Proofs.Ytcmcbemcfjbchab
/-- The statement. -/
theorem fnExactBuildTree_holds : Rows.FnExactBuildTreeSaid := fnExactBuildTree.over
#print axioms fnExactBuildTree_holds
end Go.Proofs.Ytcmcbemcfjbchab
