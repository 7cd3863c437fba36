/-
  Walks: the marks of what Erase answers.
-/
import Derived.Test.YtjndcajblpgjmaaHeld
namespace Go.Proofs.Ytjndcajblpgjmaa
open Go.RowKit
open M (OpD NodeD Gr)
set_option linter.unusedVariables false
set_option linter.unusedSimpArgs false

/-- Rules that own their memory, within the blocks from N to E. -/
def OwnG (N E : Nat) (w : World) (a : Option Addr) (n : Nat) (R : Nat → NodeD) : Prop :=
  n = 0 ∨ ∃ g B s, a = some ⟨g, 0, none⟩ ∧ N ≤ g ∧ g < E ∧ ¬ InS s n g ∧ (∀ i, i < n → w.cell? ⟨g, i * 2, none⟩ = some (.slice (s i).na (R i).nl (s i).nc) ∧ w.cell? ⟨g, i * 2 + 1, none⟩ = some (.slice (s i).ba (R i).bl (s i).bc)) ∧ Seats B w R s n ∧ SoftQ (InS s n) w ∧ (∀ x, InS s n x → N ≤ x ∧ x < E)

theorem Seats.later {B n : Nat} {w w' : World} {R : Nat → NodeD} {s : Nat → Seat} (h : Seats B w R s n) (hs : w.heap.size ≤ w'.heap.size) (t : ∀ x, InS s n x → w'.heap[x]? = w.heap[x]?) : Seats B w' R s n := by
  refine h.on' hs (fun b h1 h2 h3 => ?_)
  by_cases q : InS s n b
  · exact t b q
  · exact absurd ⟨h1, fun i hi hx => q ⟨i, hi, hx⟩⟩ h3

theorem OwnG.on {N E : Nat} {w w' : World} {a : Option Addr} {n : Nat} {R : Nat → NodeD} (h : OwnG N E w a n R) (hs : w.heap.size ≤ w'.heap.size) (t : ∀ x, N ≤ x → x < E → w'.heap[x]? = w.heap[x]?) : OwnG N E w' a n R := by
  rcases h with h | ⟨g, B, s, e, g1, g2, hg, hh, seat, hf, hin⟩
  · exact .inl h
  · refine .inr ⟨g, B, s, e, g1, g2, hg, fun i hi => ?_, seat.later hs (fun x hx => t x (hin x hx).1 (hin x hx).2), fun x o hx => ?_, hin⟩
    · exact ⟨(World.cell?_of_block (a := ⟨g, i * 2, none⟩) (t g g1 g2)).trans (hh i hi).1, (World.cell?_of_block (a := ⟨g, i * 2 + 1, none⟩) (t g g1 g2)).trans (hh i hi).2⟩
    · rw [World.frozen?_of_block (a := ⟨x, o, none⟩) (t x (hin x hx).1 (hin x hx).2)]; exact hf x o hx

theorem EraseIs.owned {g : Gr} {w w' : World} {e : Ending} (h : EraseIs g w e w') : ∃ a c, e = .returned (.agg #[.slice a (erG g).nr c, .slice none (erG g).nb 0]) ∧ GramA (New w w') w' a none (erG g) ∧ OwnG w.heap.size w'.heap.size w' a (erG g).nr (erG g).rule := by
  obtain ⟨a, c, e1, hG⟩ := h.gram
  refine ⟨a, c, e1, hG, ?_⟩
  obtain ⟨v, e2, hh⟩ := h.val
  rcases hh with ⟨hV, s, B, hB, own, seat, hsoft⟩ | ⟨hV, ev⟩
  · rw [erG_pos hV] at e1 ⊢
    have ev : v = .slice a g.nr c := by
      rw [e2] at e1
      injection e1 with e1
      injection e1 with e1
      simpa using e1
    subst ev
    rcases own with ⟨_, q, _⟩ | ⟨b, cap, e, hq, hl, hc, hcs, hwr⟩
    · exact .inl q
    injection e with q1 q2 q3
    subst q1
    have hlen := hdrs_len (fun i => erN (g.rule i)) s g.nr
    have hin : ∀ x, InS s g.nr x → B < x ∧ x < w'.heap.size := fun x ⟨i, hi, hx⟩ => by have := seat.lo i hi; omega
    refine .inr ⟨b, B, s, rfl, by have := hq.1.1; omega, hq.2, fun ⟨i, hi, hx⟩ => hq.1.2 i hi hx, fun i hi => ?_, seat, fun x o hx => hsoft x o (by have := (hin x hx).1; omega) (hin x hx).2, fun x hx => ⟨by have := (hin x hx).1; omega, (hin x hx).2⟩⟩
    have hi' : i < g.nr := hi
    obtain ⟨g0, g1⟩ := hdrs_get (fun i => erN (g.rule i)) s g.nr i hi'
    exact ⟨(hcs _ (by omega)).trans g0, (hcs _ (by omega)).trans g1⟩
  · rw [erG_neg hV]
    exact .inl rfl

theorem erG_small {g : Gr} (h : SmallG g) : SmallG (erG g) := by
  by_cases hV : M.Valid g
  · rw [erG_pos hV]
    refine ⟨h.nr, Nat.zero_le _, fun i hi => ?_, fun i hi => absurd hi (Nat.not_lt_zero _)⟩
    have hN := h.rule i hi
    refine ⟨hN.name, hN.byt, hN.body.1, fun j hj => ?_⟩
    show (er ((g.rule i).body j)).sl ≤ _
    unfold er
    by_cases q : ((g.rule i).body j).kind = 3
    · rw [if_pos q]; exact Nat.zero_le _
    · rw [if_neg q]; exact hN.body.2 j hj
  · rw [erG_neg hV]
    exact ⟨Nat.zero_le _, Nat.zero_le _, fun i hi => absurd hi (Nat.not_lt_zero _), fun i hi => absurd hi (Nat.not_lt_zero _)⟩
theorem erG_nb (g : Gr) : (erG g).nb = 0 := by
  by_cases hV : M.Valid g
  · rw [erG_pos hV]
  · rw [erG_neg hV]

set_option maxHeartbeats 1000000 in
theorem markRuleS_none (a : Option Addr) (c : Nat) (k : Int) (w : World) : Calls Try.prog 67 #[.slice a 0 c, .int .i64 k] w (HeldIs k w) := by
  go_enter Try.func67, Try.ntmps67
  go_wp2
  go_loopw [1, 5] (fun kv i wr => kv = .int .i64 k ∧ i = .int .i64 0 ∧ wr = w) (fun _ _ _ => 0)
  case atStart => exact ⟨rfl, rfl, rfl⟩
  case round =>
    obtain ⟨rfl, rfl, hw⟩ := hrel
    subst hw
    go_wp2
    go_ret
    exact ⟨rfl, rfl⟩

/-- Marked: the numbers lie there, and nothing but the blocks from N to E has turned. -/
structure MarkedG (N E : Nat) (a : Option Addr) (n : Nat) (R : Nat → NodeD) (w : World) (e : Ending) (w' : World) : Prop where
  val : e = .returned (.int .i64 (1 + cntR R n))
  lies : RulesA (fun _ => True) w' a n (mkR 1 R)
  os : w'.os = w.os
  tape : w'.tape = w.tape
  output : w'.output = w.output
  size : w.heap.size ≤ w'.heap.size
  block : ∀ b, b < w.heap.size → ¬ (N ≤ b ∧ b < E) → w'.heap[b]? = w.heap[b]?

theorem markRules_owned (N E : Nat) (a : Option Addr) (n c : Nat) (R : Nat → NodeD) (w : World) (h : OwnG N E w a n R) (hs : ∀ i, i < n → SmallM (R i)) (hn : n ≤ 1048576) (hE : E ≤ w.heap.size) :
    Calls Try.prog 67 #[.slice a n c, .int .i64 1] w (MarkedG N E a n R w) := by
  rcases h with h | ⟨g, B, s, rfl, g1, g2, hg, hh, seat, hf, hin⟩
  · subst h
    refine (markRuleS_none a c 1 w).mono ?_
    rintro e W ⟨rfl, rfl⟩
    exact ⟨by simp [cntR], .inl rfl, rfl, rfl, rfl, Nat.le_refl _, fun _ _ _ => rfl⟩
  · refine (markRuleS_exact B g n c s R 1 w hg hh seat hs hn hf (by omega) (by omega)).mono ?_
    rintro e W ⟨rfl, hS, hW⟩
    refine ⟨rfl, ?_, hW.os, hW.tape, hW.output, Nat.le_of_eq hW.size.symm, fun b _ hb => hW.block b (fun q => hb (hin b q))⟩
    by_cases h0 : n = 0
    · exact .inl h0
    refine .inr ⟨g, 0, rfl, trivial, fun i hi => ?_⟩
    rw [Nat.zero_add]
    refine ⟨⟨(s i).na, (s i).nc, (World.cell?_of_block (a := ⟨g, i * 2, none⟩) (hW.block g hg)).trans (hh i hi).1, (hS.nm i hi).wide (fun _ _ => trivial)⟩, ⟨(s i).ba, (s i).bc, (World.cell?_of_block (a := ⟨g, i * 2 + 1, none⟩) (hW.block g hg)).trans (hh i hi).2, (hS.bd i hi).ops.wide (fun _ _ => trivial)⟩⟩

set_option maxHeartbeats 2000000 in
theorem markGrammar_owned (N E : Nat) (a : Option Addr) (n c lc : Nat) (R : Nat → NodeD) (w : World) (h : OwnG N E w a n R) (hs : ∀ i, i < n → SmallM (R i)) (hn : n ≤ 1048576) (hE : E ≤ w.heap.size) :
    Calls Try.prog 22 #[.agg #[.slice a n c, .slice none 0 lc], .int .i64 1] w (MarkedG N E a n R w) := by
  have HO : Hid (OwnG N E w a n R) := h
  have HS : Hid (∀ i, i < n → SmallM (R i)) := hs
  clear h hs
  go_enter Try.func22, Try.ntmps22
  go_wp2_with (first | (go_at_call 67; refine (markRules_owned N E a n c R _ (HO.out.on (by simp) (fun x _ hx => Below.heap_alloc w _ x (Nat.lt_of_lt_of_le hx hE))) HS.out hn (by simp; omega)).mono ?_; rintro e W ⟨rfl, hR, h1, h2, h3, h4, h5⟩; have x1 := (World.cell?_of_block (a := ⟨w.heap.size, 1, none⟩) (h5 w.heap.size (by simp) (fun q => by omega))).trans (cN (W := w) (c := #[.slice a n c, .slice none 0 lc]) (t := 36) (j := 1) w.heap.size rfl rfl); have HM : Hid (MarkedG N E a n R w (.returned (.int .i64 (1 + cntR R n))) W) := ⟨rfl, hR, h1, h2, h3, by { have := h4; simp only [World.size_alloc] at this; omega }, fun b hb hnb => (h5 b (by simp; omega) hnb).trans (Below.heap_alloc w _ b hb)⟩; clear hR h1 h2 h3 h4 h5) | (go_at_call 68; refine (markLabelS_none none lc (1 + cntR R n) _).mono ?_; rintro e W2 ⟨rfl, hW2⟩; subst W2))
  go_ret
  exact HM.out

set_option maxHeartbeats 2000000 in
theorem heldGrammar_any (Q : Nat → Prop) (a : Option Addr) (n c lc : Nat) (R : Nat → NodeD) (w : World) (h : RulesA Q w a n (mkR 1 R)) (hs : ∀ i, i < n → SmallM (R i)) (hn : n ≤ 1048576) :
    Calls Try.prog 27 #[.agg #[.slice a n c, .slice none 0 lc], .int .i64 1] w (fun e w' => e = .returned (.int .i64 (1 + cntR R n)) ∧ Below w.heap.size w w') := by
  have HO : Hid (RulesA Q w a n (mkR 1 R)) := h
  have HS : Hid (∀ i, i < n → SmallM (R i)) := hs
  have nn : ¬ (1 + (cntR R n : Int) < 0) := by omega
  clear h hs
  go_enter Try.func27, Try.ntmps27
  go_wp2_with (first | (go_at_call 72; refine (heldRuleS_any Q a n c R 1 _ (HO.out.later (bel1 w _)) HS.out hn (by omega) (by omega)).mono ?_; rintro e W ⟨rfl, hW⟩; subst W) | (go_at_call 73; refine (heldLabelS_none none lc (1 + cntR R n) _).mono ?_; rintro e W2 ⟨rfl, hW2⟩; subst W2))
  go_ret
  exact ⟨rfl, bel1 w _⟩

end Go.Proofs.Ytjndcajblpgjmaa
