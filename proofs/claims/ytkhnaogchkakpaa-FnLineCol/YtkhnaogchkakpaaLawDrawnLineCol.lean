/-
  The law FnLineCol: the frame as the guide's program writes it, the walk by hand.
-/
import Derived.Test.YtkhnaogchkakpaaRows
import Derived.WalkKit
import Derived.ProofKit
import Derived.OpenShut
import Derived.ShutString
import Derived.ChangeOld
import Derived.Below
import Derived.Test.YtkhnaogchkakpaaDrawText
import Derived.Test.YtkhnaogchkakpaaReach
namespace Go.Proofs.Ytkhnaogchkakpaa.fnLineCol
open Go.ChangeShapes Go.WideShapes Go.ChangeAt Go.RowKit
open Go.ChangeMaps (open_string shut_string)
set_option linter.unusedVariables false

theorem own : ownKnob Try.prog.godebug = none := by kernel_rfl
theorem laidOut : laidOutB Try.prog = true := by kernel_rfl

/-- WHAT THE WALK IS TOLD OF A SLICE OF INTEGERS THAT CAME IN: it is nil; or it leads to a row of 'cap' cells, the numbers 'zs' (the first 'len' are its elements, the rest its spare room), each fitting its kind. -/
def IsRow (k : IntKind) (w : World) (a : Option Addr) (len cap : Nat) (zs : List Int) : Prop :=
  (a = none ∧ len = 0 ∧ cap = 0 ∧ zs = []) ∨
  ∃ x, a = some x ∧ len ≤ cap ∧ cap ≤ maxLen ∧ zs.length = cap ∧ (∀ i, i < zs.length → w.cell? (x.add i) = some (.int k (zs.getD i 0))) ∧ ∀ n ∈ zs, (Lit.int k n).wf = true

theorem argT_of_row {w : World} {a : Option Addr} {len cap : Nat} {zs : List Int} (h : IsRow .u8 w a len cap zs) : ∃ T : Nat → Int, ArgT w a len T ∧ ∀ i, 0 ≤ T i ∧ T i ≤ 255 := by
  rcases h with ⟨rfl, rfl, rfl, rfl⟩ | ⟨x, rfl, hl, hm, hz, hcell, hwz⟩
  · exact ⟨fun _ => 0, .inl rfl, fun _ => ⟨Int.le_refl 0, by show (0 : Int) ≤ 255; omega⟩⟩
  · refine ⟨fun i => zs.getD i 0, ?_, fun i => ?_⟩
    · by_cases h0 : len = 0
      · exact .inl h0
      · obtain ⟨b, off, spot⟩ := x
        have hc := hcell 0 (by omega)
        have hspot : spot = none := by simpa [Addr.add] using World.cell?_spot hc
        subst hspot
        refine .inr ⟨b, off, rfl, fun i hi => ?_⟩
        have h := hcell i (by omega)
        have e : (⟨b, off, none⟩ : Addr).add i = ⟨b, off + i, none⟩ := by
          by_cases h0 : i = 0
          · subst h0; simp [Addr.add]
          · simp [Addr.add, h0]
        rw [e] at h
        exact h
    · have := range_u8 hwz i
      simpa using this

set_option maxHeartbeats 4000000 in
theorem walk (a0 : Option Addr) (len0 cap0 : Nat) (z0 : List Int) (w : World) (w0 : IsRow .u8 w a0 len0 cap0 z0) :
    Calls Try.prog 3 #[.slice a0 len0 cap0] w fun e w' => e = .returned (.bool true) ∧ Below w.heap.size w w' := by
  by_cases hbig : 1048576 < len0
  · have hd : (1048576 : Int) < (len0 : Int) := by omega
    go_enter Try.func3, Try.ntmps3
    go_wp2
    go_ret
    exact ⟨rfl, Below.refl _ _⟩
  · have hn : len0 ≤ 1048576 := by omega
    have hd : decide ((1048576 : Int) < (len0 : Int)) = false := by simp; omega
    have hrow : len0 ≤ cap0 ∧ (a0 = none → len0 = 0 ∧ cap0 = 0) := by
      rcases w0 with ⟨rfl, rfl, rfl, rfl⟩ | ⟨x, rfl, hl, hm, hz, hcell, hwz⟩
      · exact ⟨Nat.le_refl _, fun _ => ⟨rfl, rfl⟩⟩
      · exact ⟨hl, fun h => by cases h⟩
    obtain ⟨T0, hT0, hb0⟩ := argT_of_row w0
    go_enter Try.func3, Try.ntmps3
    go_wp2_with fail
    refine (drawLineCol_any a0 len0 cap0 T0 _ hT0 hb0 hn hrow.1 hrow.2).mono ?_
    rintro e W0 ⟨⟨v, u, n, rfl, hM⟩, hbW⟩
    obtain ⟨a, cap, T, adr, rfl, hV, hA⟩ := made_text hM
    have hns := hV.small
    clear hM w0 hrow hT0 hb0 hn hd hbig
    go_wp2
    go_loopw [5] (fun i wr => ∃ p L C : Nat, i = .int .i64 p ∧ Reach T n p L C ∧ Below W0.heap.size W0 wr) (fun i _ => n + 1 - (intOf i).toNat)
    case atStart => exact ⟨0, 1, 1, rfl, reach_zero, Below.refl _ _⟩
    case round =>
      obtain ⟨p, L, C, rfl, hr, hbr⟩ := hrel
      obtain ⟨_, _, hpn⟩ := reach_bd hr
      have HR : Hid (Reach T n p L C) := hr
      have HL : Hid (LC T n p L C) := reach_lc hr
      have HO : Hid (OF T n L C p) := .inl ⟨p, L, C, rfl, rfl, rfl, hr⟩
      clear hr
      have hd0 : (p : Int) ≤ n := by omega
      go_wp2_with fail
      refine (lineCol_in a n cap p T adr _ (hV.later hbr) hpn).mono ?_
      rintro e w4 ⟨⟨L', C', rfl, hlc⟩, hb4⟩
      obtain ⟨eL, eC⟩ := hlc.unique HL.out
      rw [eL, eC]
      clear eL eC hlc
      have hb4' := hbr.trans (hb4.mono hbr.size)
      go_wp2_with fail
      refine (offsetOf_any a n cap L C T adr _ (hV.later hb4')).mono ?_
      rintro e w5 ⟨⟨r, rfl, hof⟩, hb5⟩
      have er := hof.unique HO.out
      rw [er]
      clear er hof
      have hb5' := hb4'.trans (hb5.mono hb4'.size)
      have hd1 : ((p : Int) != p) = false := by simp
      by_cases he : p = n
      · have hd2 : ((p : Int) == n) = true := by simp [he]
        clear he
        go_wp2
        go_ret
        exact ⟨rfl, hbW.trans (hb5'.mono hbW.size)⟩
      · have hd2 : ((p : Int) == n) = false := by rw [beq_eq_false_iff_ne]; omega
        have hlt : p < n := by omega
        clear he
        obtain ⟨g, ha, hTg⟩ : ∃ g, a = some ⟨g, 0, none⟩ ∧ Tx W0 g 0 n T := by
          rcases hA with ⟨_, h⟩ | h
          · omega
          · exact h
        have hcp := M.cl_pos T n p
        have hcle := M.cl_le T n p hlt
        have HE : Hid (M.scl T n p = M.cl T n p) := M.scl_eq T n p hlt hV.byte
        have HN : Hid (∃ L2 C2 : Nat, Reach T n (p + M.cl T n p) L2 C2) := by
          by_cases h10 : T p = 10
          · rw [cl_nl h10]; exact ⟨_, _, reach_nl HR.out hlt h10⟩
          · exact ⟨_, _, reach_ch HR.out hlt h10⟩
        subst ha
        go_wp2_with fail
        refine (scharLen_in g 0 n cap p T _ (hTg.later hb5') hV.byte hns hlt).mono ?_
        rintro e w6 ⟨rfl, rfl⟩
        rw [HE.out]
        go_wp2
        obtain ⟨L2, C2, h2⟩ := HN.out
        go_roundw
        case rel => exact ⟨p + M.cl T n p, L2, C2, by go_num, h2, hb5'⟩
        case measure => simp [intOf]; omega

/-! ### THE ROW's STEP: WRITTEN OUT: LEAVE IT -/
set_option maxRecDepth 100000 in
theorem lifted (os : Os) (started : os.Started) (H : Type) (enc : TypeId × Value → H) :
    ReturnsInHanded {} Try.checked os 3 .any (Rows.fnLineColSpec.pre6 enc Try.prog Try.f3 Rows.fnLineColRow.domain false) (Rows.fnLineColSpec.post enc Try.prog Try.f3 false true false false) := by
  refine returnsInHanded_of_change (C := Try.checked) own started (by kernel_rfl) Try.func3
    (ChangeSpec.witness6 (enc := enc) (C := Try.checked) false ⟨#[], #[.slice none 0 0], []⟩ 8 (by kernel_rfl) (by kernel_rfl) (by kernel_rfl) (by kernel_rfl)) ?_
  intro W base args ds gs before hval0 hW hcnd _
  have hval : ∀ (j : Nat) t v, Try.f3.params[j]? = some t → args[j]? = some v → Value.okWide Try.prog W .any base t v := hval0
  have hW' := hW
  obtain ⟨p, q, hA0, hV, rfl, hfz, hnd⟩ := hW
  have hA : DataW.TrodAll enc Try.prog W 0 (fun _ => true) true Try.f3.params.toList args.toList ds p := hA0
  rw [Try.params3] at hA hval
  obtain ⟨v0, vs0, d0, ds0, p0, q0, hargs, rfl, rfl, h0, r0⟩ := trodAll_cons hA
  obtain ⟨rfl, rfl, rfl⟩ := trodAll_nil r0
  obtain rfl : args = #[v0] := by cases args; simp_all
  obtain ⟨rfl, rfl⟩ := trodVars_none hV
  obtain ⟨a0, len0, cap0, rfl⟩ := okWide_slice Try.underlying22 (hval 0 22 v0 rfl rfl)
  have k0 := h0
  have lt0 : ∀ x ∈ p0, x.block < W.heap.size := by obtain ⟨m, hm⟩ := k0; exact DataW.trod_lt m _ _ _ hm
  obtain ⟨z0, w0⟩ : ∃ zs, IsRow .u8 W a0 len0 cap0 zs := by
    obtain ⟨fuel, hf⟩ := h0
    rcases open_ints Try.underlying22 Try.underlying5 (by kernel_rfl) hf with ⟨hcs, _⟩ | ⟨x, l, c, zs, hcs, _, hl, hm, hz, _, hcell, hwz⟩
    · simp [Value.cells] at hcs
      obtain ⟨rfl, rfl, rfl⟩ := hcs
      exact ⟨[], .inl ⟨rfl, rfl, rfl, rfl⟩⟩
    · simp [Value.cells] at hcs
      obtain ⟨rfl, rfl, rfl⟩ := hcs
      exact ⟨zs, .inr ⟨_, rfl, hl, hm, by simpa using hz, hcell, hwz⟩⟩
  clear hA0 hval0
  refine (walk a0 len0 cap0 z0 W w0).mono fun e W' ⟨he, bel⟩ => ?_
  subst he
  exact ⟨_, rfl, _, _, _, [], _, [], hW', trodAll_mk1 (shut_bool Try.underlying4 _), (trodAll_cons_mk (Below.trod laidOut (by kernel_rfl) (of_decide_eq_true (by kernel_rfl)) k0 bel lt0) trodAll_mk0), rfl, bel.frame _, fun h => by cases h⟩

theorem over : Rows.fnLineColRow.holds Try.pinned (OpenSpec.ofChange Rows.fnLineColSpec) :=
  OpenClaim.holds_of_wide 3 Try.f3 rfl rfl rfl rfl rfl rfl rfl ⟨rfl, rfl, rfl, rfl, rfl⟩ rfl rfl rfl rfl rfl (by kernel_rfl) Try.func3 (by kernel_rfl)
    (of_decide_eq_true (by kernel_rfl)) (by unfold Func.isWrapper; first | (rw [if_pos (by decide +kernel)]; kernel_rfl) | (rw [if_neg (by decide +kernel)]; exact ⟨rfl, rfl⟩))
    (fun os started H enc _ => lifted os started H enc)

end Go.Proofs.Ytkhnaogchkakpaa.fnLineCol
namespace Go.Proofs.Ytkhnaogchkakpaa
/-- The statement. -/
theorem fnLineCol_holds : Rows.FnLineColSaid := fnLineCol.over
#print axioms fnLineCol_holds
end Go.Proofs.Ytkhnaogchkakpaa
