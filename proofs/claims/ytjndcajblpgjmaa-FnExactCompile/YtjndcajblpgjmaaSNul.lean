/-
  Walks: the specification's nullable nodes.
-/
import Derived.Test.YtjndcajblpgjmaaSNull
import Derived.Test.YtjndcajblpgjmaaNodes
import Derived.Test.YtjndcajblpgjmaaSValid
namespace Go.Proofs.Ytjndcajblpgjmaa
open Go.RowKit
open M (OpD NodeD Gr)
set_option linter.unusedVariables false
set_option linter.unusedSimpArgs false

/-- A node's body is none, or an expression. -/
def NodeOK (g : Gr) (p : Nat) : Prop := (nd g p).bl = 0 ∨ M.BodyOK g.nr g.nb (nd g p).bl (nd g p).body
theorem valid_node {g : Gr} (h : M.Valid g) {p : Nat} (hp : p < g.nr + g.nb) : NodeOK g p := by
  unfold NodeOK
  by_cases e : p < g.nr
  · rw [nd_rule g e]; exact .inr (h.rb p e)
  · obtain ⟨i, rfl⟩ : ∃ i, p = g.nr + i := ⟨p - g.nr, by omega⟩
    rw [nd_lab]
    cases hh : (g.lab i).has with
    | true => exact .inr (h.lb i (by omega) hh)
    | false => exact .inl (h.lz i (by omega) hh)

/-- What the marks say of the nodes, given marks. -/
def nullF (g : Gr) (mk : Nat → Bool) (p : Nat) : Bool := M.nulB g.nr mk (nd g p).bl (nd g p).body

theorem dep_pos (B : Nat → OpD) (n : Nat) (h : M.Fed B n) (hn : 0 < n) : 1 ≤ M.dep B n := by
  obtain ⟨q, rfl⟩ : ∃ q, n = q + 1 := ⟨n - 1, by omega⟩
  have := h q (by omega)
  rw [M.dep]; omega

theorem stk_whole {α : Type} [Inhabited α] (f : OpD → α → α → α) (B : Nat → OpD) (n : Nat) (h : M.Shape n B) : M.stk f B n = (0, M.top (M.stk f B n)) :: M.stk f B 0 := by
  have hF : M.Fed B n := h.1
  have hl := M.stk_len f B n hF
  rw [h.2] at hl
  match hs : M.stk f B n with
  | [] => rw [hs] at hl; simp at hl
  | [(s, x)] =>
    obtain ⟨a1, a2, _⟩ := M.stk_cons f B n hF s x _ hs
    have l2 := M.stk_len f B s (hF.less (by omega))
    rw [← a2] at l2
    have : s = 0 := by
      by_cases e : s = 0
      · exact e
      · have := dep_pos B s (hF.less (by omega)) (by omega)
        simp at l2; omega
    subst this
    rfl
  | a :: b :: r => rw [hs] at hl; simp at hl; omega

set_option maxRecDepth 100000 in
set_option maxHeartbeats 4000000 in
theorem l3null_body (Q : Nat → Prop) (ra la a : Option Addr) (nr rc nb lc n c : Nat) (B : Nat → OpD) (mb mo mc : Nat) (mk : Nat → Bool) (w : World) (h1 : nr ≤ 100) (h2 : nb ≤ 100) (hn : n ≤ 1048576) (hc : n ≤ c) (hB : OpsA Q w a n B) (hok : n = 0 ∨ M.BodyOK nr nb n B) (hM : BoolsA w mb mo (nr + nb) mk) :
    Calls Try.prog 132 #[.agg #[.slice ra nr rc, .slice la nb lc], .slice a n c, .slice (some ⟨mb, mo, none⟩) (nr + nb) mc] w (Gives1 (M.nulB nr mk n B) w) := by
  by_cases h0 : n = 0
  · subst h0
    clear hM hok hB
    go_enter Try.func132, Try.ntmps132
    go_wp2
    go_ret
    exact ⟨rfl, bel1 w _⟩
  · rcases hok with q | hok
    · exact absurd q h0
    rcases hB with q | ⟨b, off, rfl, hq, hB⟩
    · exact absurd q h0
    exact l3null_any Q ra la nr rc nb lc b off n B mb mo mc mk hn h1 h2 hok.1 n 0 off c n _ w (Nat.le_refl _) hok.2.1 (stk_whole _ B n hok.2) (by omega) (by omega) hc hB hM

/-- The body of a node. -/
structure BodyIs (Q : Nat → Prop) (d : NodeD) (w : World) (e : Ending) (w' : World) : Prop where
  val : ∃ a c, e = .returned (.slice a d.bl c) ∧ OpsA Q w' a d.bl d.body ∧ d.bl ≤ c
  bel : Below w.heap.size w w'

set_option maxHeartbeats 2000000 in
theorem l3body_any (Q : Nat → Prop) (ra la : Option Addr) (rc lc : Nat) (g : Gr) (w : World) (hG : GramX Q w ra la g) (h1 : g.nr ≤ 100) (h2 : g.nb ≤ 100) (p : Nat) (hp : p < g.nr + g.nb) :
    Calls Try.prog 80 #[.agg #[.slice ra g.nr rc, .slice la g.nb lc], .int .i64 (p : Int)] w (BodyIs Q (nd g p) w) := by
  by_cases e : p < g.nr
  · rw [nd_rule g e]
    rcases hG.rules with h0 | ⟨b, off, rfl, hq, hR⟩
    · omega
    obtain ⟨⟨_, ⟨a0, c0', k0, hb0⟩⟩, ⟨ba, bc, c1, hcap⟩⟩ := hR p e
    have hae : a0 = ba ∧ c0' = bc := by rw [c1] at k0; simp at k0; exact ⟨k0.1.symm, k0.2.symm⟩
    obtain ⟨rfl, rfl⟩ := hae
    have HB : Hid (OpsA Q w a0 (g.rule p).bl (g.rule p).body) := hb0
    have hbl : b < w.heap.size := lt_of_cell c1
    have HC : Hid ((g.rule p).bl ≤ c0') := hcap
    clear hb0 hcap k0 hR hG
    go_enter Try.func80, Try.ntmps80
    go_wp2
    go_ret
    exact ⟨⟨a0, c0', rfl, HB.out.later (bel1 w _), HC.out⟩, bel1 w _⟩
  · obtain ⟨i, rfl⟩ : ∃ i, p = g.nr + i := ⟨p - g.nr, by omega⟩
    rw [nd_lab]
    rcases hG.labs with h0 | ⟨b, off, rfl, hq, hR⟩
    · omega
    obtain ⟨⟨_, _, ⟨a0, c0', k0, hb0⟩⟩, ⟨ba, bc, c1, hcap⟩⟩ := hR i (by omega)
    have hae : a0 = ba ∧ c0' = bc := by rw [c1] at k0; simp at k0; exact ⟨k0.1.symm, k0.2.symm⟩
    obtain ⟨rfl, rfl⟩ := hae
    have HB : Hid (OpsA Q w a0 (g.lab i).bl (g.lab i).body) := hb0
    have hbl : b < w.heap.size := lt_of_cell c1
    have HC : Hid ((g.lab i).bl ≤ c0') := hcap
    have hi : i < g.nb := by omega
    have x1 : ¬ ((g.nr + i : Nat) : Int) < (g.nr : Int) := by omega
    have x2 : ((g.nr + i : Nat) : Int) - (g.nr : Int) = (i : Int) := by omega
    clear hb0 hcap k0 hR hG
    go_enter Try.func80, Try.ntmps80
    go_wp2
    go_ret
    exact ⟨⟨a0, c0', rfl, HB.out.later (bel1 w _), HC.out⟩, bel1 w _⟩

set_option maxHeartbeats 1000000 in
theorem l3nodes_any (ra la : Option Addr) (nr rc nb lc : Nat) (w : World) (h1 : nr ≤ 100) (h2 : nb ≤ 100) :
    Calls Try.prog 78 #[.agg #[.slice ra nr rc, .slice la nb lc]] w fun e w' => e = .returned (.int .i64 ((nr + nb : Nat) : Int)) ∧ Below w.heap.size w w' := by
  go_enter Try.func78, Try.ntmps78
  go_wp2
  go_ret
  exact ⟨ret_int (by omega), bel1 w _⟩

theorem info4 : (Try.prog.info? 4).map (fun i => (i.zero, i.size, i.bytes)) = some (some (.bool false), 1, 1) := by kernel_rfl

end Go.Proofs.Ytjndcajblpgjmaa
