/-
  Walks: the program's LineCol.
-/
import Derived.Test.YtkhnaogchkakpaaHolding
import Derived.Test.YtkhnaogchkakpaaSpecLines
import Derived.Deep.RegionWith
namespace Go.Proofs.Ytkhnaogchkakpaa
open Go.RowKit Go.Shelf
set_option linter.unusedVariables false

theorem line_end {T : Nat → Int} {n f : Nat} (hf : f ≤ n) : f + lnLen T n f ≤ n ∧ (f + lnLen T n f < n → T (f + lnLen T n f) = 10) := by
  have := lnLen_le T n f
  exact ⟨by omega, lnLen_at⟩

theorem lc_of {T : Nat → Int} {n q f c num : Nat} (hf : f ≤ n) (hnum : num = 1 + M.cnt T f) (hst : f = 0 ∨ T (f - 1) = 10) (h1 : f ≤ q) (h2 : q ≤ f + lnLen T n f)
    (hc : ∀ j, j < c → f + M.pos (sh T f) (lnLen T n f) 0 j < q) (hqc : q ≤ f + M.pos (sh T f) (lnLen T n f) 0 c) : LC T n q num (c + 1) := by
  obtain ⟨e1, e2⟩ := line_end (T := T) hf
  have hp : ∀ d, d ≤ c → M.pos T n f d = f + M.pos (sh T f) (lnLen T n f) 0 d := fun d hd => M.pos_body T n f (lnLen T n f) d e1 e2 (fun j hj => by have := hc j (by omega); show M.pos (sh T f) (lnLen T n f) 0 j < _; omega)
  refine ⟨f, c, ⟨h1, hst, fun j a d => lnLen_not (n := n) a (by omega)⟩, ⟨fun j hj => by rw [hp j (by omega)]; exact hc j hj, by rw [hp c (Nat.le_refl _)]; exact hqc⟩, ?_, rfl⟩
  rw [hnum, M.cnt_same T f q h1 (fun j a d => lnLen_not (n := n) a (by omega))]

set_option maxRecDepth 100000 in
set_option maxHeartbeats 4000000 in
/-- The program's LineCol at an offset of the text. -/
theorem lineCol_in (a : Option Addr) (n cap q : Nat) (T : Nat → Int) (adr : Nat → Option Addr) (w : World) (hV : TextV w a n cap T adr) (hq : q ≤ n) :
    Calls Try.prog 7 #[.slice a n cap, .int .i64 q] w fun e w' => (∃ L C : Nat, e = .returned (.tuple #[.int .i64 L, .int .i64 C]) ∧ LC T n q L C) ∧ Below w.heap.size w w' := by
  go_enter Try.func7, Try.ntmps7
  go_wp2_with fail
  refine (callsIn_wide.1 (holding_in a n cap q T adr _ hV)).mono ?_
  rintro e w1 ⟨(⟨num, fr, rfl, hfr, hnum, hst, hle, hqe⟩ | ⟨rfl, hq'⟩), hb1⟩
  · have hle' : fr ≤ q := by omega
    have hqe' : q ≤ fr + lnLen T n fr := by omega
    have hll := lnLen_le T n fr
    have FIN : Hid (∀ c : Nat, (∀ j, j < c → fr + M.pos (sh T fr) (lnLen T n fr) 0 j < q) → q ≤ fr + M.pos (sh T fr) (lnLen T n fr) 0 c → LC T n q num (c + 1)) := fun c h1 h2 => lc_of hfr hnum hst hle' hqe' h1 h2
    clear hnum hst hle hqe
    have hV1 := hV.later hb1
    have hn := hV.small
    have hcap := hV.cap
    obtain ⟨b, o, hA, hTb⟩ := hV1.body fr hfr
    go_wp2_with fail
    obtain ⟨X, hX⟩ : ∃ X, w1.alloc (Obj.cells #[Value.int IntKind.i64 num, Value.int IntKind.i64 fr, Value.slice (adr fr) (lnLen T n fr) (cap - fr)] 38) = X := ⟨_, rfl⟩
    have hx := cells3New w1 (.int .i64 num) (.int .i64 fr) (.slice (adr fr) (lnLen T n fr) (cap - fr)) 38
    rw [hX] at hx
    obtain ⟨x0, x1, x2⟩ := hx
    have bX : Below w1.heap.size w1 X := by rw [← hX]; exact (Below.refl _ w1).alloc (Nat.le_refl _) _
    have sX : w1.heap.size < X.heap.size := by rw [← hX]; simp
    rw [hX]
    have hTX : Tx X.drew b o (lnLen T n fr) (sh T fr) := hTb.later bX.drew
    have CC := callsIn_wide.1 (column_in num fr b o (lnLen T n fr) (cap - fr) (adr fr) q (sh T fr) X.drew hTX (fun i => hV.byte _) (by omega) (by omega) (by omega) hA hqe')
    have hbX : Below w.heap.size w X.drew := (hb1.trans (bX.mono hb1.size)).drew
    have hwX : w.heap.size ≤ X.drew.heap.size := hbX.size
    clear hX bX
    go_region_with (go_at_call 18; refine CC.mono ?_; rintro e w' ⟨⟨c, rfl, hc1, hc2, hc3⟩, hbc⟩; have y0 := (hbc.cell (p := ⟨w1.heap.size, 0, none⟩) sX).trans x0; have G1 : Hid _ := hc1; have G2 : Hid _ := hc2; clear hc1 hc2 hc3)
    all_goals
      go_wp2
      go_ret2
      exact ⟨⟨num, c + 1, rfl, FIN.out c G1.out G2.out⟩, hbX.trans (hbc.mono hwX)⟩
  · omega

set_option maxRecDepth 100000 in
set_option maxHeartbeats 4000000 in
/-- The program's LineCol at an offset outside the text. -/
theorem lineCol_out (a : Option Addr) (n cap : Nat) (q : Int) (T : Nat → Int) (adr : Nat → Option Addr) (w : World) (hV : TextV w a n cap T adr) (hq : q < 0 ∨ (n : Int) < q) :
    Calls Try.prog 7 #[.slice a n cap, .int .i64 q] w fun e w' => e = .returned (.tuple #[.int .i64 0, .int .i64 0]) ∧ Below w.heap.size w w' := by
  have HQ : Hid _ := hq
  clear hq
  go_enter Try.func7, Try.ntmps7
  go_wp2_with fail
  refine (callsIn_wide.1 (holding_in a n cap q T adr _ hV)).mono ?_
  rintro e w1 ⟨(⟨num, fr, rfl, hfr, hnum, hst, hle, hqe⟩ | ⟨rfl, hq'⟩), hb1⟩
  · have := HQ.out
    have hll := lnLen_le T n fr
    omega
  · have hs1 := hb1.size
    clear hq'
    go_wp2
    go_ret2
    exact ⟨rfl, hb1.alloc hs1 _⟩

end Go.Proofs.Ytkhnaogchkakpaa
