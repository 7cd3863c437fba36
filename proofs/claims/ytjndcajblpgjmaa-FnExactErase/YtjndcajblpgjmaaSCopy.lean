/-
  Walks: the specification's copy of a body.
-/
import Derived.Test.YtjndcajblpgjmaaAppD
namespace Go.Proofs.Ytjndcajblpgjmaa
open Go.RowKit
open M (OpD NodeD Gr)
set_option linter.unusedVariables false
set_option linter.unusedSimpArgs false

/-- The cells of an element whose set's header is f i. -/
def opv (B : Nat → OpD) (f : Nat → Option Addr × Nat) (i : Nat) : List Value := [.int .i64 (B i).kind, .slice (f i).1 (B i).sl (f i).2, .int .i64 (B i).arg]
def opvs (B : Nat → OpD) (f : Nat → Option Addr × Nat) : Nat → List Value
  | 0 => []
  | k + 1 => opvs B f k ++ opv B f k
theorem opvs_len (B : Nat → OpD) (f : Nat → Option Addr × Nat) (k : Nat) : (opvs B f k).length = k * 3 := by
  induction k with
  | zero => rfl
  | succ k ih => rw [opvs, List.length_append, ih]; simp [opv]; omega
theorem opvs_congr (B : Nat → OpD) (f f' : Nat → Option Addr × Nat) (k : Nat) (h : ∀ i, i < k → f i = f' i) : opvs B f k = opvs B f' k := by
  induction k with
  | zero => rfl
  | succ k ih => rw [opvs, opvs, ih (fun i hi => h i (by omega)), opv, opv, h k (by omega)]
theorem opvs_get (B : Nat → OpD) (f : Nat → Option Addr × Nat) (k i : Nat) (h : i < k) : (opvs B f k)[i * 3]? = some (.int .i64 (B i).kind) ∧ (opvs B f k)[i * 3 + 1]? = some (.slice (f i).1 (B i).sl (f i).2) ∧ (opvs B f k)[i * 3 + 2]? = some (.int .i64 (B i).arg) := by
  induction k with
  | zero => omega
  | succ k ih =>
    rw [opvs]
    by_cases e : i < k
    · rw [List.getElem?_append_left (by rw [opvs_len]; omega), List.getElem?_append_left (by rw [opvs_len]; omega), List.getElem?_append_left (by rw [opvs_len]; omega)]
      exact ih e
    · obtain rfl : i = k := by omega
      rw [List.getElem?_append_right (by rw [opvs_len]; omega), List.getElem?_append_right (by rw [opvs_len]; omega), List.getElem?_append_right (by rw [opvs_len]; omega), opvs_len]
      rw [show i * 3 - i * 3 = 0 by omega, show i * 3 + 1 - i * 3 = 1 by omega, show i * 3 + 2 - i * 3 = 2 by omega]
      exact ⟨rfl, rfl, rfl⟩

/-- A body of k elements that lies in blocks of its own, its sets in those of Qs. -/
structure CpB (w wr : World) (B : Nat → OpD) (k : Nat) (v : Value) (Qs : Nat → Prop) (f : Nat → Option Addr × Nat) : Prop where
  own : OwnC (fun b => New w wr b ∧ ¬ Qs b) wr v 3 k (opvs B f k)
  new : ∀ b, Qs b → New w wr b
  set : ∀ i, i < k → Ints Qs .i64 wr (f i).1 (B i).sl (B i).set
  bel : Below w.heap.size w wr
  soft : Soft w wr

def updf (f : Nat → Option Addr × Nat) (k : Nat) (x : Option Addr × Nat) : Nat → Option Addr × Nat := fun i => if i = k then x else f i
theorem updf_lt {f : Nat → Option Addr × Nat} {k i : Nat} {x : Option Addr × Nat} (h : i < k) : updf f k x i = f i := by unfold updf; rw [if_neg (by omega)]
theorem updf_at {f : Nat → Option Addr × Nat} {k : Nat} {x : Option Addr × Nat} : updf f k x k = x := by simp [updf]

theorem cp_step {w wr W1 W4 : World} {B : Nat → OpD} {k : Nat} {v v4 : Value} {Qs : Nat → Prop} {f : Nat → Option Addr × Nat} {a1 : Option Addr} {c1 : Nat} {c : Array Value} {t : TypeId} (h : CpB w wr B k v Qs f)
    (hI : Ints (fun b => False ∨ wr.heap.size ≤ b) .i64 W1 a1 (B k).sl (B k).set) (g1 : Grew (fun _ => False) wr W1)
    (own : OwnC (fun b => (New w wr b ∧ ¬ Qs b) ∨ (W1.drew.alloc (.cells c t)).heap.size ≤ b) W4 v4 3 (k + 1) (opvs B f k ++ [.int .i64 (B k).kind, .slice a1 (B k).sl c1, .int .i64 (B k).arg]))
    (g4 : Grew (fun b => New w wr b ∧ ¬ Qs b) (W1.drew.alloc (.cells c t)) W4) :
    CpB w W4 B (k + 1) v4 (fun b => Qs b ∨ (wr.heap.size ≤ b ∧ b < W1.heap.size)) (updf f k (a1, c1)) := by
  have z1 := g1.size
  have z4 := g4.size
  have zb := h.bel.size
  have e1 : (W1.drew.alloc (.cells c t)).heap.size = W1.heap.size + 1 := by simp
  rw [e1] at z4
  have keep : ∀ b, b < W1.heap.size → ¬ (New w wr b ∧ ¬ Qs b) → W4.heap[b]? = W1.heap[b]? := fun b hb hn => by
    rw [g4.block b (by rw [e1]; omega) hn]
    exact Below.heap_alloc W1.drew _ _ hb
  have hf : ∀ i, i < k → updf f k (a1, c1) i = f i := fun i hi => updf_lt hi
  refine ⟨?_, ?_, ?_, ?_, ?_⟩
  · rcases own with ⟨_, h0, _⟩ | ⟨b, cap, e, hq, hl, hc, hcs, hwr⟩
    · omega
    have hb : b < W4.heap.size := by
      have h := hcs 0 (by omega)
      rw [List.getElem?_eq_getElem (by omega)] at h
      exact lt_of_cell h
    have hcs' : opvs B (updf f k (a1, c1)) (k + 1) = opvs B f k ++ [.int .i64 (B k).kind, .slice a1 (B k).sl c1, .int .i64 (B k).arg] := by
      rw [opvs, opvs_congr B _ f k hf, opv, updf_at]
    rw [hcs']
    refine .inr ⟨b, cap, e, ⟨⟨?_, hb⟩, ?_⟩, hl, hc, hcs, hwr⟩
    · rcases hq with q | q
      · exact q.1.1
      · rw [e1] at q; omega
    · rcases hq with q | q
      · rintro (p | p)
        · exact q.2 p
        · have := q.1.2; omega
      · rw [e1] at q
        rintro (p | p)
        · have := (h.new b p).2; omega
        · omega
  · rintro b (p | p)
    · exact ⟨(h.new b p).1, by have := (h.new b p).2; omega⟩
    · exact ⟨by omega, by omega⟩
  · intro i hi
    by_cases e : i = k
    · subst e
      rw [updf_at]
      have hI' : Ints (fun b => wr.heap.size ≤ b ∧ b < W1.heap.size) .i64 W1 a1 (B i).sl (B i).set := by
        by_cases h0 : (B i).sl = 0
        · exact .inl h0
        · rcases hI with q | ⟨b, off, q1, q2, q3⟩
          · exact absurd q h0
          · exact .inr ⟨b, off, q1, ⟨by rcases q2 with q | q; exact q.elim; exact q, lt_of_cell (q3 0 (by omega))⟩, q3⟩
      refine (hI'.on (fun b hb => keep b hb.2 (fun q => ?_))).wide (fun b hb => .inr hb)
      have := q.1.2
      have := hb.1
      omega
    · have hi' : i < k := by omega
      rw [hf i hi']
      refine ((h.set i hi').on (fun b hb => ?_)).wide (fun b hb => .inl hb)
      have hn := h.new b hb
      have := hn.2
      rw [keep b (by omega) (fun q => q.2 hb), g1.block b hn.2 (fun q => q)]
  · have b1 : Below w.heap.size w W1 := Grew.below g1 h.bel (fun _ _ q => q)
    have b2 : Below w.heap.size w (W1.drew.alloc (.cells c t)) := bel_tr b1.drew (bel1 W1.drew _)
    exact Grew.below g4 b2 (fun b hb q => by have := q.1.1; omega)
  · have s1 : Soft w W1 := Soft.grew h.soft g1
    have s2 : Soft w (W1.drew.alloc (.cells c t)) := Soft.trans (b := W1.drew) s1 (soft1 W1.drew c t) (bel1 W1.drew _)
    exact Soft.grew s2 g4

end Go.Proofs.Ytjndcajblpgjmaa
