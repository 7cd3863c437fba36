/-
  Walks: the specification's Erase, its plain part.
-/
import Derived.Test.YtjndcajblpgjmaaSPut
namespace Go.Proofs.Ytjndcajblpgjmaa
open Go.RowKit
open M (OpD NodeD Gr)
set_option linter.unusedVariables false
set_option linter.unusedSimpArgs false

/-- A body, its first m elements erased. -/
def erB (B : Nat → OpD) (m : Nat) : Nat → OpD := fun i => if i < m then er (B i) else B i
theorem erB_at (B : Nat → OpD) (m : Nat) : erB B m m = B m := by simp [erB]
theorem erB_zero (B : Nat → OpD) : erB B 0 = B := by funext i; simp [erB]
theorem erB_keep (B : Nat → OpD) (m : Nat) (h : er (B m) = B m) : erB B m = erB B (m + 1) := by
  funext i
  unfold erB
  by_cases e : i < m
  · rw [if_pos e, if_pos (by omega)]
  · by_cases e' : i = m
    · subst e'; rw [if_neg (by omega), if_pos (by omega), h]
    · rw [if_neg e, if_neg (by omega)]
theorem erB_put (B : Nat → OpD) (m : Nat) (d : OpD) (h : er (B m) = d) : updB (erB B m) m d = erB B (m + 1) := by
  funext i
  by_cases e' : i = m
  · subst e'; rw [updB_at]; unfold erB; rw [if_pos (by omega), h]
  · rw [updB_ne e']
    unfold erB
    by_cases e : i < m
    · rw [if_pos e, if_pos (by omega)]
    · rw [if_neg e, if_neg (by omega)]

theorem CpB.at {w wr : World} {B : Nat → OpD} {n m : Nat} {ab : Option Addr} {cb : Nat} {Qs : Nat → Prop} {f : Nat → Option Addr × Nat} (h : CpB w wr B n (.slice ab n cb) Qs f) (hm : m < n) :
    ∃ b, ab = some ⟨b, 0, none⟩ ∧ b < wr.heap.size ∧ w.heap.size ≤ b ∧ wr.cell? ⟨b, m * 3, none⟩ = some (.int .i64 (B m).kind) ∧ wr.cell? ⟨b, m * 3 + 1, none⟩ = some (.slice (f m).1 (B m).sl (f m).2) ∧ wr.cell? ⟨b, m * 3 + 2, none⟩ = some (.int .i64 (B m).arg) ∧
      wr.frozen? ⟨b, m * 3, none⟩ = false ∧ wr.frozen? ⟨b, m * 3 + 1, none⟩ = false ∧ wr.frozen? ⟨b, m * 3 + 2, none⟩ = false := by
  rcases h.own with ⟨_, q, _⟩ | ⟨b', cap', e, hq, hl, hc, hcs, hwr⟩
  · omega
  injection e with e1 e2 e3
  subst e1 e3
  have hlen := opvs_len B f n
  obtain ⟨g0, g1, g2⟩ := opvs_get B f n m hm
  exact ⟨b', rfl, hq.1.2, hq.1.1, (hcs _ (by omega)).trans g0, (hcs _ (by omega)).trans g1, (hcs _ (by omega)).trans g2, (hwr _ (by omega)).2, (hwr _ (by omega)).2, (hwr _ (by omega)).2⟩

theorem CpB.ops {w wr : World} {B B' : Nat → OpD} {n : Nat} {ab : Option Addr} {cb : Nat} {Qs : Nat → Prop} {f : Nat → Option Addr × Nat} (h : CpB w wr B n (.slice ab n cb) Qs f) (hB : ∀ i, i < n → B i = B' i) : OpsA (New w wr) wr ab n B' := by
  by_cases h0 : n = 0
  · exact .inl h0
  obtain ⟨b, e, hb, hb', _⟩ := h.at (m := 0) (by omega)
  refine .inr ⟨b, 0, e, ⟨hb', hb⟩, fun i hi => ?_⟩
  obtain ⟨b2, e2, _, _, k0, k1, k2, _⟩ := h.at hi
  have hbb : b2 = b := by rw [e] at e2; injection e2 with e2; injection e2 with e2; exact e2.symm
  subst hbb
  rw [Nat.zero_add, ← hB i hi]
  exact ⟨k0, ⟨_, _, k1, (h.set i hi).wide h.new⟩, k2⟩

/-- The rules so far. -/
structure CpR (W0 wr : World) (R : Nat → NodeD) (k : Nat) (v : Value) (Qp : Nat → Prop) (s : Nat → Seat) : Prop where
  own : OwnC (fun b => (W0.heap.size < b ∧ b < wr.heap.size) ∧ ¬ Qp b) wr v 2 k (hdrs R s k)
  new : ∀ b, Qp b → W0.heap.size < b ∧ b < wr.heap.size
  nm : ∀ i, i < k → Ints Qp .u8 wr (s i).na (R i).nl (R i).name
  bd : ∀ i, i < k → OpsA Qp wr (s i).ba (R i).bl (R i).body
  bel : Below W0.heap.size W0 wr
  soft : Soft W0 wr

def serI (W0 : World) (R : Nat → NodeD) (n : Nat) (i : Value) (wr : World) : Prop :=
  ∃ (k : Nat) (v : Value) (Qp : Nat → Prop) (s : Nat → Seat), k ≤ n ∧ i = .int .i64 (k : Int) ∧ wr.cell? ⟨W0.heap.size, 0, none⟩ = some v ∧ wr.cell? ⟨W0.heap.size, 1, none⟩ = some (.slice none 0 0) ∧ CpR W0 wr R k v Qp s ∧ W0.heap.size < wr.heap.size

theorem ser_step {W0 wr X W1 W4 : World} {R : Nat → NodeD} {n k : Nat} {Qp : Nat → Prop} {s : Nat → Seat} {na' ba' a4 : Option Addr} {nc' bc' c4 : Nat} {t : TypeId} {c : Array Value} {v u : Value}
    (hlt : k < n) (hsz : W0.heap.size < wr.heap.size) (v0 : wr.cell? ⟨W0.heap.size, 0, none⟩ = some u) (v1 : wr.cell? ⟨W0.heap.size, 1, none⟩ = some (.slice none 0 0))
    (h : CpR W0 wr R k v Qp s) (bX : Below wr.heap.size wr X) (sX : Soft wr X) (hO : OpsA (New wr X) X ba' (R k).bl (R k).body)
    (hI : Ints (New X W1) .u8 W1 na' (R k).nl (R k).name) (b1 : Below X.heap.size X W1) (s1 : Soft X W1)
    (own : OwnC (fun b => ((W0.heap.size < b ∧ b < wr.heap.size) ∧ ¬ Qp b) ∨ (W1.alloc (.cells c t)).heap.size ≤ b) W4 (.slice a4 (k + 1) c4) 2 (k + 1) (hdrs R s k ++ [.slice na' (R k).nl nc', .slice ba' (R k).bl bc']))
    (gr : Grew (fun b => (W0.heap.size < b ∧ b < wr.heap.size) ∧ ¬ Qp b) (W1.alloc (.cells c t)) W4) :
    serI W0 R n (.int .i64 ((k + 1 : Nat) : Int)) (W4.setCell ⟨W0.heap.size, 0, none⟩ (.slice a4 (k + 1) c4)) := by
  have p1 : Below wr.heap.size wr W1 := bel_tr bX b1
  have zX := bX.size
  have z1 := b1.size
  have zg := gr.size
  have e1 : (W1.alloc (.cells c t)).heap.size = W1.heap.size + 1 := by simp
  rw [e1] at zg
  have blk : W4.heap[W0.heap.size]? = (W1.alloc (.cells c t)).heap[W0.heap.size]? := gr.block _ (by rw [e1]; omega) (fun h => Nat.lt_irrefl _ h.1.1)
  have h0 : W4.cell? ⟨W0.heap.size, 0, none⟩ = some u := (World.cell?_of_block (a := ⟨W0.heap.size, 0, none⟩) blk).trans (cellOn _ (cell_on v0 p1))
  have h1 : W4.cell? ⟨W0.heap.size, 1, none⟩ = some (.slice none 0 0) := (World.cell?_of_block (a := ⟨W0.heap.size, 1, none⟩) blk).trans (cellOn _ (cell_on v1 p1))
  have keep : ∀ b, W0.heap.size ≠ b → (W4.setCell ⟨W0.heap.size, 0, none⟩ (.slice a4 (k + 1) c4)).heap[b]? = W4.heap[b]? := fun b hb => Below.heap_setCell W4 _ _ b (fun e => hb e.symm)
  have hid : ∀ i, i < k → upd s k ⟨na', nc', ba', bc', 0, 0, 0⟩ i = s i := fun i hi => upd_lt hi
  have old : ∀ b, W0.heap.size < b → b < W1.heap.size → ¬ ((W0.heap.size < b ∧ b < wr.heap.size) ∧ ¬ Qp b) → (W4.setCell ⟨W0.heap.size, 0, none⟩ (.slice a4 (k + 1) c4)).heap[b]? = W1.heap[b]? := fun b hb1 hb2 hn => by
    rw [keep b (by omega), gr.block b (by rw [e1]; omega) hn]
    exact Below.heap_alloc W1 _ _ hb2
  refine ⟨k + 1, _, (fun b => Qp b ∨ (wr.heap.size ≤ b ∧ b < W1.heap.size)), upd s k ⟨na', nc', ba', bc', 0, 0, 0⟩, by omega, rfl, World.cell?_setCell_same _ _ _ h0, (World.cell?_setCell_other _ _ _ _ (by intro e; cases e)).trans h1, ⟨?_, ?_, ?_, ?_, ?_, ?_⟩, by rw [size_set]; omega⟩
  · rcases own with ⟨_, h, _⟩ | ⟨b, cap, e, hq, hl, hc, hcs, hwr⟩
    · omega
    have hb : b < W4.heap.size := by
      have h := hcs 0 (by omega)
      rw [List.getElem?_eq_getElem (by omega)] at h
      exact lt_of_cell h
    have hlo : W0.heap.size < b := by
      rcases hq with q | q
      · exact q.1.1
      · rw [e1] at q; omega
    have hcs' : hdrs R (upd s k ⟨na', nc', ba', bc', 0, 0, 0⟩) (k + 1) = hdrs R s k ++ [.slice na' (R k).nl nc', .slice ba' (R k).bl bc'] := by
      rw [hdrs, hdrs_congr R _ s k hid, hdr, upd_at]
    rw [hcs']
    refine .inr ⟨b, cap, e, ⟨⟨hlo, by rw [size_set]; exact hb⟩, ?_⟩, hl, hc, fun j hj => ?_, hwr.later (keep b (by omega))⟩
    · rcases hq with q | q
      · rintro (p | p)
        · exact q.2 p
        · have := q.1.2; omega
      · rw [e1] at q
        rintro (p | p)
        · have := (h.new b p).2; omega
        · omega
    · rw [World.cell?_of_block (a := ⟨b, j, none⟩) (keep b (by omega))]; exact hcs j hj
  · rw [size_set]
    rintro b (p | p)
    · exact ⟨(h.new b p).1, by have := (h.new b p).2; omega⟩
    · exact ⟨by omega, by omega⟩
  · intro i hi
    by_cases e : i = k
    · subst e
      rw [upd_at]
      exact (hI.on (fun b hb => old b (by have := hb.1; omega) hb.2 (fun q => by have := q.1.2; have := hb.1; omega))).wide (fun b hb => .inr ⟨by have := hb.1; omega, hb.2⟩)
    · rw [hid i (by omega)]
      exact ((h.nm i (by omega)).on (fun b hb => (old b (h.new b hb).1 (by have := (h.new b hb).2; omega) (fun q => q.2 hb)).trans (p1.block b (h.new b hb).2))).wide (fun b hb => .inl hb)
  · intro i hi
    by_cases e : i = k
    · subst e
      rw [upd_at]
      exact (hO.on (fun b hb => (old b (by have := hb.1; omega) (by have := hb.2; omega) (fun q => by have := q.1.2; have := hb.1; omega)).trans (b1.block b hb.2))).wide (fun b hb => .inr ⟨hb.1, by have := hb.2; omega⟩)
    · rw [hid i (by omega)]
      exact ((h.bd i (by omega)).on (fun b hb => (old b (h.new b hb).1 (by have := (h.new b hb).2; omega) (fun q => q.2 hb)).trans (p1.block b (h.new b hb).2))).wide (fun b hb => .inl hb)
  · refine bel_set ?_ _ _ _ (Nat.le_refl _)
    exact Grew.below gr (bel_tr h.bel (bel_tr p1 (bel1 W1 _))) (fun b hb q => by have := q.1.1; omega)
  · refine Soft.set (Soft.grew ?_ gr) _ _
    exact Soft.trans (Soft.trans (Soft.trans h.soft sX bX) s1 b1) (soft1 W1 c t) (bel1 W1 _)

end Go.Proofs.Ytjndcajblpgjmaa
