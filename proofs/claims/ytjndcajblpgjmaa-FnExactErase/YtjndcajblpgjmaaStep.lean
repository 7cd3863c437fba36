/-
  Walks: a Go call as one step of a region that draws its order.
-/
import Derived.Test.YtjndcajblpgjmaaErase
import Derived.RangeFuncCalls
namespace Go.Proofs.Ytjndcajblpgjmaa
open Go.RowKit
set_option linter.unusedVariables false

theorem stepCall {P : Program} {ops : Array Oper} {o : Oper} {a : Act} {w : World} {K : Act → World → Prop} {P' : Exit → Act → World → Prop} {E : Prop} {f : FuncId} (hf : ∀ args w, (callFunc f args).run P w = .ok (.enter f args) w) (hgd : o.guard = none) (x : Operand) (ty : TypeId)
    (ho : o.op = .call { callee := .value (.func f), args := #[x], argTypes := #[ty] }) {y : Value} (hx : a.eval x = y) (h : Calls P f #[y] w (fun e w' => ∃ u, e = .returned u ∧ K (a.put o.dst u) w')) : if Region.wanted o (yielded ops a.tmps) = true then Oper.wp P o a w K P' else E := by
  have hw : Region.wanted o (yielded ops a.tmps) = true := by simp [Region.wanted, hgd]
  rw [if_pos hw]
  have hrun : (execOp a.eval o).run P w = .ok (.enter f #[y]) w := by
    have e : a.eval (.func f) = .func (.func f) #[] #[] := rfl
    unfold execOp
    simp only [ho, resolve, invoke, Deferred.ofValue, Sem.run_bind, Sem.run_pure, Result.andThen_ok, List.map_toArray, List.map_cons, List.map_nil, hx, e]
    exact hf #[y] w
  unfold Oper.wp
  rw [hrun]
  refine Calls.mono h ?_
  rintro e w' ⟨u, rfl, hk⟩
  exact hk

theorem Seats.on' {B : Nat} {w w' : World} {R : Nat → M.NodeD} {s : Nat → Seat} {k : Nat} (h : Seats B w R s k) (hs : w.heap.size ≤ w'.heap.size) (t : ∀ b, B < b → b < w.heap.size → ¬ Free B s k b → w'.heap[b]? = w.heap[b]?) : Seats B w' R s k := by
  have key : ∀ i, i < k → Stay (fun b => (s i).l ≤ b ∧ b < (s i).h) w w' := fun i hi b hb => t b (by have := h.lo i hi; omega) (by have := h.lo i hi; omega) (fun f => f.2 i hi hb)
  refine ⟨fun i hi => ?_, h.ap, fun i hi => ?_, fun i hi => ?_⟩
  · have := h.lo i hi
    exact ⟨this.1, this.2.1, this.2.2.1, by omega⟩
  · exact (h.nm i hi).on ((key i hi).mono (fun b hb => ⟨hb.1, by have := h.lo i hi; omega⟩))
  · exact (h.bd i hi).on ((key i hi).mono (fun b hb => ⟨by have := h.lo i hi; omega, hb.2⟩))

theorem era_step {W0 wr X W1 W2 W4 : World} {R : Nat → M.NodeD} {n k : Nat} {s : Nat → Seat} {na' ba' a4 : Option Addr} {nc' bc' c4 : Nat} {t : TypeId} {c : Array Value} {u : Value}
    (hlt : k < n) (hsz : W0.heap.size < wr.heap.size) (v0 : wr.cell? ⟨W0.heap.size, 0, none⟩ = some u) (v1 : wr.cell? ⟨W0.heap.size, 1, none⟩ = some (.slice none 0 0))
    (seat : Seats W0.heap.size wr R s k) (be : Below W0.heap.size W0 wr) (so : Soft W0 wr)
    (bX : Below wr.heap.size wr X) (sX : Soft wr X) (hX : X.heap.size = wr.heap.size + 1)
    (hI : Ints (New X W1) .u8 W1 na' (R k).nl (R k).name) (b1 : Below X.heap.size X W1) (s1 : Soft X W1)
    (hO : OpsO W1.heap.size W2.heap.size W2 ba' (R k).bl (R k).body) (b2 : Below W1.heap.size W1 W2) (s2 : Soft W1 W2)
    (own : OwnC (fun b => (Free W0.heap.size s k b ∧ b < wr.heap.size) ∨ (W2.alloc (.cells c t)).heap.size ≤ b) W4 (.slice a4 (k + 1) c4) 2 (k + 1) (hdrs R s k ++ [.slice na' (R k).nl nc', .slice ba' (R k).bl bc']))
    (gr : Grew (fun b => Free W0.heap.size s k b ∧ b < wr.heap.size) (W2.alloc (.cells c t)) W4) :
    eraI W0 R n (.int .i64 ((k + 1 : Nat) : Int)) (W4.setCell ⟨W0.heap.size, 0, none⟩ (.slice a4 (k + 1) c4)) := by
  have p2 : Below wr.heap.size wr W2 := bel_tr (bel_tr bX b1) b2
  have z1 := b1.size
  have z2 := b2.size
  have zg := gr.size
  simp only [World.size_alloc] at zg
  have lt3 : W0.heap.size < (W2.alloc (.cells c t)).heap.size := by simp only [World.size_alloc]; omega
  have blk : W4.heap[W0.heap.size]? = (W2.alloc (.cells c t)).heap[W0.heap.size]? := gr.block _ lt3 (fun h => Nat.lt_irrefl _ h.1.1)
  have h0 : W4.cell? ⟨W0.heap.size, 0, none⟩ = some u := (World.cell?_of_block (a := ⟨W0.heap.size, 0, none⟩) blk).trans (cellOn _ (cell_on v0 p2))
  have h1 : W4.cell? ⟨W0.heap.size, 1, none⟩ = some (.slice none 0 0) := (World.cell?_of_block (a := ⟨W0.heap.size, 1, none⟩) blk).trans (cellOn _ (cell_on v1 p2))
  have keep : ∀ b, W0.heap.size ≠ b → (W4.setCell ⟨W0.heap.size, 0, none⟩ (.slice a4 (k + 1) c4)).heap[b]? = W4.heap[b]? := fun b hb => Below.heap_setCell W4 _ _ b (fun e => hb e.symm)
  have hid : ∀ i, i < k → upd s k ⟨na', nc', ba', bc', wr.heap.size + 1, W1.heap.size, W2.heap.size⟩ i = s i := fun i hi => upd_lt hi
  have old : ∀ b, wr.heap.size < b → b < W2.heap.size → (W4.setCell ⟨W0.heap.size, 0, none⟩ (.slice a4 (k + 1) c4)).heap[b]? = W2.heap[b]? := fun b hb1 hb2 => by
    rw [keep b (by omega), gr.block b (by simp only [World.size_alloc]; omega) (fun h => by have := h.2; omega)]
    exact Below.heap_alloc W2 _ _ hb2
  refine ⟨k + 1, _, upd s k ⟨na', nc', ba', bc', wr.heap.size + 1, W1.heap.size, W2.heap.size⟩, by omega, rfl, World.cell?_setCell_same _ _ _ h0, ?_, ?_, ?_, ?_, ?_, ?_⟩
  · exact (World.cell?_setCell_other _ _ _ _ (by intro e; cases e)).trans h1
  · rcases own with ⟨_, h, _⟩ | ⟨b, cap, e, hq, hl, hc, hcs, hwr⟩
    · omega
    have hb : b < W4.heap.size := by
      have h := hcs 0 (by omega)
      rw [List.getElem?_eq_getElem (by omega)] at h
      exact lt_of_cell h
    have hne : W0.heap.size ≠ b := by
      rcases hq with h | h
      · have := h.1.1; omega
      · omega
    have hcs' : hdrs R (upd s k ⟨na', nc', ba', bc', wr.heap.size + 1, W1.heap.size, W2.heap.size⟩) (k + 1) = hdrs R s k ++ [.slice na' (R k).nl nc', .slice ba' (R k).bl bc'] := by
      rw [hdrs, hdrs_congr R _ s k hid, hdr, upd_at]
    rw [hcs']
    refine .inr ⟨b, cap, e, ⟨⟨?_, ?_⟩, by rw [size_set]; exact hb⟩, hl, hc, fun j hj => ?_, hwr.later (keep b hne)⟩
    · rcases hq with h | h
      · exact h.1.1
      · omega
    · intro i hi
      by_cases e : i = k
      · subst e
        rw [upd_at]
        rcases hq with h | h
        · have := h.2; rintro ⟨q1, q2⟩; simp only at q1; omega
        · simp only [World.size_alloc] at h; rintro ⟨q1, q2⟩; simp only at q2; omega
      · rw [hid i (by omega)]
        rcases hq with h | h
        · exact h.1.2 i (by omega)
        · simp only [World.size_alloc] at h
          have := seat.lo i (by omega)
          have := p2.size
          rintro ⟨q1, q2⟩
          omega
    · rw [World.cell?_of_block (a := ⟨b, j, none⟩) (keep b hne)]; exact hcs j hj
  · refine Seats.snoc (x := ⟨na', nc', ba', bc', wr.heap.size + 1, W1.heap.size, W2.heap.size⟩) (seat.on' ?_ ?_) ?_ ?_ ?_ ?_ ?_ ?_ ?_
    · have := p2.size; rw [size_set]; omega
    · intro b hB hb hf
      · rw [keep b (by omega), gr.block b (by simp only [World.size_alloc]; have := p2.size; omega) (fun h => hf h.1)]
        exact (Below.heap_alloc W2 _ _ (by have := p2.size; omega)).trans (p2.block b hb)
    · show W0.heap.size < wr.heap.size + 1; omega
    · show wr.heap.size + 1 ≤ W1.heap.size; omega
    · show W1.heap.size ≤ W2.heap.size; omega
    · show W2.heap.size ≤ _; rw [size_set]; omega
    · intro i hi; have := seat.lo i hi; show (s i).h ≤ wr.heap.size + 1; omega
    · refine (Ints.on (w := W1) ?_ ?_)
      · exact hI.wide (fun b hb => ⟨by have := hb.1; show wr.heap.size + 1 ≤ b; omega, hb.2⟩)
      · intro b hb
        rw [old b (by have := hb.1; simp only at this; omega) (by have := hb.2; simp only at this; omega)]
        exact b2.block b hb.2
    · refine OpsO.on hO ?_
      intro b hb
      exact old b (Nat.lt_of_lt_of_le (by omega : wr.heap.size < W1.heap.size) hb.1) hb.2
  · refine bel_set ?_ _ _ _ (Nat.le_refl _)
    have b3 : Below W0.heap.size W0 (W2.alloc (.cells c t)) := bel_tr be (bel_tr p2 (bel1 W2 _))
    exact Grew.below gr b3 (fun b hb h => by have := h.1.1; omega)
  · refine Soft.set (Soft.grew ?_ gr) _ _
    exact Soft.trans (Soft.trans (Soft.trans (Soft.trans so sX bX) s1 b1) s2 b2) (soft1 W2 c t) (bel1 W2 _)
  · rw [size_set]; omega
end Go.Proofs.Ytjndcajblpgjmaa
