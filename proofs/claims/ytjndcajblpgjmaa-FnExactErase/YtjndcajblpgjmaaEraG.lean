/-
  What Erase answers, as a grammar in memory.
-/
import Derived.Test.YtjndcajblpgjmaaSEraW
namespace Go.Proofs.Ytjndcajblpgjmaa
open Go.RowKit
open M (OpD NodeD Gr)
set_option linter.unusedVariables false

/-- The grammar that Erase means. -/
noncomputable def erG (g : Gr) : Gr := by
  classical exact if M.Valid g then { g with rule := fun i => erN (g.rule i), nb := 0 } else { g with nr := 0, nb := 0 }
theorem erG_pos {g : Gr} (h : M.Valid g) : erG g = { g with rule := fun i => erN (g.rule i), nb := 0 } := by unfold erG; simp only [h, if_true]
theorem erG_neg {g : Gr} (h : ¬ M.Valid g) : erG g = { g with nr := 0, nb := 0 } := by unfold erG; simp only [h, if_false]

theorem Seats.rules {B n : Nat} {w : World} {R : Nat → NodeD} {s : Nat → Seat} {a : Option Addr} {c : Nat} (h : Seats B w R s n) (own : OwnC (fun b => Free B s n b ∧ b < w.heap.size) w (.slice a n c) 2 n (hdrs R s n)) : RulesA (fun b => B < b ∧ b < w.heap.size) w a n R := by
  rcases own with ⟨_, q, _⟩ | ⟨b, cap, e, hq, hl, hc, hcs, hwr⟩
  · exact .inl q
  injection e with e1 e2 e3
  subst e1
  have hlen := hdrs_len R s n
  refine .inr ⟨b, 0, rfl, ⟨hq.1.1, hq.2⟩, fun i hi => ?_⟩
  obtain ⟨g0, g1⟩ := hdrs_get R s n i hi
  have hlo := h.lo i hi
  rw [Nat.zero_add]
  refine ⟨⟨(s i).na, (s i).nc, (hcs _ (by omega)).trans g0, ?_⟩, ⟨(s i).ba, (s i).bc, (hcs _ (by omega)).trans g1, ?_⟩⟩
  · exact (h.nm i hi).wide (fun x hx => ⟨by omega, by omega⟩)
  · exact (h.bd i hi).ops.wide (fun x hx => ⟨by omega, by omega⟩)

theorem SErIs.gram {g : Gr} {w w' : World} {e : Ending} (h : SErIs g w e w') : ∃ a c, e = .returned (.agg #[.slice a (erG g).nr c, .slice none (erG g).nb 0]) ∧ GramA (New w w') w' a none (erG g) := by
  obtain ⟨v, ev, hh⟩ := h.val
  subst ev
  rcases hh with ⟨hV, a, c, ev, hR⟩ | ⟨hV, ev⟩ <;> subst ev
  · rw [erG_pos hV]
    exact ⟨a, c, rfl, ⟨hR, .inl rfl⟩⟩
  · rw [erG_neg hV]
    exact ⟨none, 0, rfl, ⟨.inl rfl, .inl rfl⟩⟩

theorem EraseIs.gram {g : Gr} {w w' : World} {e : Ending} (h : EraseIs g w e w') : ∃ a c, e = .returned (.agg #[.slice a (erG g).nr c, .slice none (erG g).nb 0]) ∧ GramA (New w w') w' a none (erG g) := by
  obtain ⟨v, ev, hh⟩ := h.val
  subst ev
  rcases hh with ⟨hV, s, B, hB, own, seat, _⟩ | ⟨hV, ev⟩
  · rw [erG_pos hV]
    obtain ⟨a, c, rfl⟩ := own.shape
    refine ⟨a, c, rfl, ⟨?_, .inl rfl⟩⟩
    have hR := seat.rules own
    rcases hR with q | ⟨b, off, e, hq, hR⟩
    · exact .inl q
    · refine .inr ⟨b, off, e, ⟨by omega, hq.2⟩, fun i hi => ?_⟩
      obtain ⟨⟨a1, c1, k1, n1⟩, ⟨a2, c2, k2, n2⟩⟩ := hR i hi
      exact ⟨⟨a1, c1, k1, n1.wide (fun x hx => ⟨by omega, hx.2⟩)⟩, ⟨a2, c2, k2, n2.wide (fun x hx => ⟨by omega, hx.2⟩)⟩⟩
  · subst ev
    rw [erG_neg hV]
    exact ⟨none, 0, rfl, ⟨.inl rfl, .inl rfl⟩⟩

end Go.Proofs.Ytjndcajblpgjmaa
