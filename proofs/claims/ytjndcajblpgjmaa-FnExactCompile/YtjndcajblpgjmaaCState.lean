/-
  The compiler's state in memory.
-/
import Derived.Test.YtjndcajblpgjmaaCMem
import Derived.Test.YtjndcajblpgjmaaCClone
namespace Go.Proofs.Ytjndcajblpgjmaa
open Go.RowKit
open M (OpD NodeD Gr InsD EX ins)
set_option linter.unusedVariables false
set_option linter.unusedSimpArgs false

def intsV (fl : List Int) : List Value := fl.map (fun z => .int .i64 z)
theorem intsV_len (fl : List Int) : (intsV fl).length = fl.length := by simp [intsV]
theorem intsV_app (a b : List Int) : intsV (a ++ b) = intsV a ++ intsV b := by simp [intsV]

/-- The block of an instruction's set. -/
def blk (x : IC) : Option Nat := if x.d.sl = 0 then none else x.a.map (fun a => a.block)
def blks (l : List IC) : List Nat := l.filterMap blk
theorem blks_app (l m : List IC) : blks (l ++ m) = blks l ++ blks m := by simp [blks]
theorem blk_ic (k a t : Int) : blk (ic k a t) = none := by simp [blk, ic, ins]
theorem blks_in {S : Nat → Prop} {w : World} {l : List IC} (h : SetsA S w l) {b : Nat} (hb : b ∈ blks l) : S b := by
  obtain ⟨x, hx, he⟩ := List.mem_filterMap.1 hb
  unfold blk at he
  split at he
  · cases he
  · rename_i h0
    rcases h x hx with q | ⟨b', off, e, hq, _⟩
    · exact absurd q h0
    · rw [e] at he
      simp at he
      rw [← he]
      exact hq

structure CP (w0 : World) (cb : Nat) (u0 u1 : Value) (l e : List IC) (fl : List Int) (w : World) (P F S : Nat → Prop) (vp vf : Value) : Prop where
  g0 : w.cell? ⟨cb, 0, none⟩ = some u0
  g1 : w.cell? ⟨cb, 1, none⟩ = some u1
  p : w.cell? ⟨cb, 2, none⟩ = some vp
  f : w.cell? ⟨cb, 3, none⟩ = some vf
  soft : ∀ j, w.frozen? ⟨cb, j, none⟩ = false
  own : OwnC P w vp 4 l.length (cellsI l)
  ownf : OwnC F w vf 1 fl.length (intsV fl)
  sets : SetsA S w (l ++ e)
  softS : ∀ b j, S b → w.frozen? ⟨b, j, none⟩ = false
  rp : ∀ b, P b → w0.heap.size ≤ b ∧ b < w.heap.size ∧ b ≠ cb ∧ ¬ F b ∧ ¬ S b
  rf : ∀ b, F b → w0.heap.size ≤ b ∧ b < w.heap.size ∧ b ≠ cb ∧ ¬ S b
  rs : ∀ b, S b → w0.heap.size ≤ b ∧ b < w.heap.size ∧ b ≠ cb
  cb0 : w0.heap.size ≤ cb ∧ cb < w.heap.size
  nodup : (blks (l ++ e)).Nodup
  bel : Below w0.heap.size w0 w
/-- The state, whatever its blocks. -/
def CS (w0 : World) (cb : Nat) (u0 u1 : Value) (l e : List IC) (fl : List Int) (w : World) : Prop := ∃ P F S vp vf, CP w0 cb u0 u1 l e fl w P F S vp vf

theorem frozen_on {w w' : World} {b j : Nat} (h : w.frozen? ⟨b, j, none⟩ = false) (hb : b < w.heap.size) (k : Below w.heap.size w w') : w'.frozen? ⟨b, j, none⟩ = false := (k.frozen (p := ⟨b, j, none⟩) hb).trans h

theorem CP.later {w0 : World} {cb : Nat} {u0 u1 : Value} {l e : List IC} {fl : List Int} {w w' : World} {P F S : Nat → Prop} {vp vf : Value} (h : CP w0 cb u0 u1 l e fl w P F S vp vf) (k : Below w.heap.size w w') : CP w0 cb u0 u1 l e fl w' P F S vp vf := by
  have hs := k.size
  exact ⟨cell_on h.g0 k, cell_on h.g1 k, cell_on h.p k, cell_on h.f k, fun j => frozen_on (h.soft j) h.cb0.2 k, ownC_late h.own (fun b hb => (h.rp b hb).2.1) k, ownC_late h.ownf (fun b hb => (h.rf b hb).2.1) k, h.sets.later k,
    fun b j hb => frozen_on (h.softS b j hb) (h.rs b hb).2.1 k, fun b hb => ⟨(h.rp b hb).1, by have := (h.rp b hb).2.1; omega, (h.rp b hb).2.2⟩, fun b hb => ⟨(h.rf b hb).1, by have := (h.rf b hb).2.1; omega, (h.rf b hb).2.2⟩, fun b hb => ⟨(h.rs b hb).1, by have := (h.rs b hb).2.1; omega, (h.rs b hb).2.2⟩,
    ⟨h.cb0.1, by have := h.cb0.2; omega⟩, h.nodup, h.bel.trans (k.mono h.bel.size)⟩
theorem CS.later {w0 : World} {cb : Nat} {u0 u1 : Value} {l e : List IC} {fl : List Int} {w w' : World} (h : CS w0 cb u0 u1 l e fl w) (k : Below w.heap.size w w') : CS w0 cb u0 u1 l e fl w' := let ⟨P, F, S, vp, vf, h⟩ := h; ⟨P, F, S, vp, vf, h.later k⟩
theorem CS.bel {w0 : World} {cb : Nat} {u0 u1 : Value} {l e : List IC} {fl : List Int} {w : World} (h : CS w0 cb u0 u1 l e fl w) : Below w0.heap.size w0 w := let ⟨_, _, _, _, _, h⟩ := h; h.bel

/-- An instruction without a set is to come. -/
theorem CP.plain {w0 : World} {cb : Nat} {u0 u1 : Value} {l : List IC} {fl : List Int} {w : World} {P F S : Nat → Prop} {vp vf : Value} (h : CP w0 cb u0 u1 l [] fl w P F S vp vf) (k a t : Int) : CP w0 cb u0 u1 l [ic k a t] fl w P F S vp vf :=
  ⟨h.g0, h.g1, h.p, h.f, h.soft, h.own, h.ownf, by
    have := h.sets
    rw [List.append_nil] at this
    exact this.app (fun x hx => by simp at hx; subst hx; exact .inl rfl), h.softS, h.rp, h.rf, h.rs, h.cb0, by
    have := h.nodup
    rw [List.append_nil] at this
    rw [blks_app]
    simp [blks, blk_ic]
    exact this, h.bel⟩
theorem CS.plain {w0 : World} {cb : Nat} {u0 u1 : Value} {l : List IC} {fl : List Int} {w : World} (h : CS w0 cb u0 u1 l [] fl w) (k a t : Int) : CS w0 cb u0 u1 l [ic k a t] fl w := let ⟨P, F, S, vp, vf, h⟩ := h; ⟨P, F, S, vp, vf, h.plain k a t⟩
/-- One with a set that was just made. -/
theorem CS.fresh {w0 : World} {cb : Nat} {u0 u1 : Value} {l : List IC} {fl : List Int} {w w' : World} (h : CS w0 cb u0 u1 l [] fl w) (k : Below w.heap.size w w') (x : IC) (hI : Ints (New w w') .i64 w' x.a x.d.sl x.d.set) (hs : Soft w w') : CS w0 cb u0 u1 l [x] fl w' := by
  obtain ⟨P, F, S, vp, vf, h0⟩ := h
  have h := h0.later k
  have hw := h0.bel.size
  refine ⟨P, F, fun b => S b ∨ New w w' b, vp, vf, h.g0, h.g1, h.p, h.f, h.soft, h.own, h.ownf, ?_, ?_, ?_, ?_, ?_, h.cb0, ?_, h.bel⟩
  · have := h.sets
    rw [List.append_nil] at this
    exact (this.wide (fun b q => .inl q)).app (fun y hy => by simp at hy; subst hy; exact hI.wide (fun b q => .inr q))
  · rintro b j (q | q)
    · exact h.softS b j q
    · exact hs b j q.1 q.2
  · intro b q
    have h1 := h.rp b q
    have h2 := (h0.rp b q).2.1
    exact ⟨h1.1, h1.2.1, h1.2.2.1, h1.2.2.2.1, fun r => r.elim h1.2.2.2.2 (fun r => by have := r.1; omega)⟩
  · intro b q
    have h1 := h.rf b q
    have h2 := (h0.rf b q).2.1
    exact ⟨h1.1, h1.2.1, h1.2.2.1, fun r => r.elim h1.2.2.2 (fun r => by have := r.1; omega)⟩
  · rintro b (q | q)
    · exact h.rs b q
    · exact ⟨by have := q.1; omega, q.2, fun e => by have := q.1; have := h0.cb0.2; omega⟩
  · have hn := h.nodup
    rw [List.append_nil] at hn
    rw [blks_app]
    refine List.nodup_append.2 ⟨hn, ?_, ?_⟩
    · unfold blks
      cases hx : blk x with
      | none => simp [hx]
      | some b => simp [hx]
    · intro a ha b hb e
      subst e
      have h1 : S a := blks_in (by have := h0.sets; rw [List.append_nil] at this; exact this) ha
      have h2 := (h0.rs a h1).2.1
      have h3 : New w w' a := blks_in (S := New w w') (w := w') (l := [x]) (fun y hy => by simp at hy; subst hy; exact hI) hb
      have := h3.1
      omega

/-- Behind the append to the program, and the store. -/
theorem CP.put {w0 : World} {cb : Nat} {u0 u1 : Value} {l : List IC} {x : IC} {fl : List Int} {w W : World} {P F S : Nat → Prop} {vp vf v' : Value} (h : CP w0 cb u0 u1 l [x] fl w P F S vp vf)
    (ho : OwnC (fun b => P b ∨ w.heap.size ≤ b) W v' 4 (l.length + 1) (cellsI l ++ icv x)) (hg : Grew (fun b => P b) w W) : CP w0 cb u0 u1 (l ++ [x]) [] fl (W.setCell ⟨cb, 2, none⟩ v') (fun b => (P b ∨ w.heap.size ≤ b) ∧ b < W.heap.size ∧ b ≠ cb) F S v' vf := by
  have hs := hg.size
  have hw := h.bel.size
  have hcb : W.heap[cb]? = w.heap[cb]? := hg.block cb h.cb0.2 (fun q => (h.rp cb q).2.2.1 rfl)
  have hz : (W.setCell ⟨cb, 2, none⟩ v').heap.size = W.heap.size := size_set _ _ _
  have cc : ∀ j v, w.cell? ⟨cb, j, none⟩ = some v → W.cell? ⟨cb, j, none⟩ = some v := fun j v hv => (World.cell?_of_block (a := ⟨cb, j, none⟩) hcb).trans hv
  have st : Stay (fun b => F b ∨ S b) w (W.setCell ⟨cb, 2, none⟩ v') := fun b hb => by
    have hlt : b < w.heap.size ∧ b ≠ cb := by
      rcases hb with q | q
      · exact ⟨(h.rf b q).2.1, (h.rf b q).2.2.1⟩
      · exact ⟨(h.rs b q).2.1, (h.rs b q).2.2⟩
    rw [Below.heap_setCell _ _ _ b hlt.2]
    exact hg.block b hlt.1 (fun q => by
      rcases hb with r | r
      · exact (h.rp b q).2.2.2.1 r
      · exact (h.rp b q).2.2.2.2 r)
  refine ⟨?_, ?_, ?_, ?_, ?_, ?_, ?_, ?_, ?_, ?_, ?_, ?_, ?_, ?_, ?_⟩
  · rw [cell_set_other (by omega)]; exact cc 0 _ h.g0
  · rw [cell_set_other (by omega)]; exact cc 1 _ h.g1
  · exact cell_set_same (cc 2 _ h.p)
  · rw [cell_set_other (by omega)]; exact cc 3 _ h.f
  · intro j
    rw [World.frozen?_setCell]
    exact (World.frozen?_of_block (a := ⟨cb, j, none⟩) hcb).trans (h.soft j)
  · rw [List.length_append, cellsI_app]
    have e : cellsI [x] = icv x := by simp [cellsI]
    rw [e]
    have h2 : OwnC (fun b => (P b ∨ w.heap.size ≤ b) ∧ b < W.heap.size ∧ b ≠ cb) W v' 4 (l.length + 1) (cellsI l ++ icv x) := by
      rcases ho with q | ⟨g, cap, e, hq, h3, h4, h5, h6⟩
      · exact .inl q
      · refine .inr ⟨g, cap, e, ⟨hq, ?_, ?_⟩, h3, h4, h5, h6⟩
        · obtain ⟨u, hu⟩ := Option.isSome_iff_exists.1 (h6 0 (by omega)).1
          exact lt_of_cell hu
        · intro e
          subst e
          rcases hq with q | q
          · exact (h.rp _ q).2.2.1 rfl
          · have := h.cb0.2; omega
    exact h2.on (fun b hb => Below.heap_setCell _ _ _ b hb.2.2)
  · exact h.ownf.on (fun b hb => st b (.inl hb))
  · rw [List.append_nil]
    exact h.sets.on (fun b hb => st b (.inr hb))
  · intro b j hb
    have := st b (.inr hb)
    exact (World.frozen?_of_block (a := ⟨b, j, none⟩) this).trans (h.softS b j hb)
  · rintro b ⟨q, q2, q3⟩
    rw [hz]
    rcases q with q | q
    · have := h.rp b q
      exact ⟨this.1, q2, q3, this.2.2.2⟩
    · exact ⟨by omega, q2, q3, fun r => by have := (h.rf b r).2.1; omega, fun r => by have := (h.rs b r).2.1; omega⟩
  · intro b hb
    have := h.rf b hb
    exact ⟨this.1, by rw [hz]; omega, this.2.2⟩
  · intro b hb
    have := h.rs b hb
    exact ⟨this.1, by rw [hz]; omega, this.2.2⟩
  · exact ⟨h.cb0.1, by rw [hz]; have := h.cb0.2; omega⟩
  · rw [List.append_nil]; exact h.nodup
  · refine ⟨hg.os.trans h.bel.os, hg.tape.trans h.bel.tape, hg.output.trans h.bel.output, by rw [hz]; omega, fun b hb => ?_⟩
    rw [Below.heap_setCell _ _ _ b (fun e => by have := h.cb0.1; simp at e; omega)]
    exact (hg.block b (by omega) (fun q => by have := (h.rp b q).1; omega)).trans (h.bel.block b hb)

/-- Behind the append to the first places, and the store. -/
theorem CP.putF {w0 : World} {cb : Nat} {u0 u1 : Value} {l : List IC} {fl : List Int} {z : Int} {w W : World} {P F S : Nat → Prop} {vp vf v' : Value} (h : CP w0 cb u0 u1 l [] fl w P F S vp vf)
    (ho : OwnC (fun b => F b ∨ w.heap.size ≤ b) W v' 1 (fl.length + 1) (intsV fl ++ [.int .i64 z])) (hg : Grew (fun b => F b) w W) : CS w0 cb u0 u1 l [] (fl ++ [z]) (W.setCell ⟨cb, 3, none⟩ v') := by
  have hs := hg.size
  have hw := h.bel.size
  have hcb : W.heap[cb]? = w.heap[cb]? := hg.block cb h.cb0.2 (fun q => (h.rf cb q).2.2.1 rfl)
  have hz : (W.setCell ⟨cb, 3, none⟩ v').heap.size = W.heap.size := size_set _ _ _
  have cc : ∀ j v, w.cell? ⟨cb, j, none⟩ = some v → W.cell? ⟨cb, j, none⟩ = some v := fun j v hv => (World.cell?_of_block (a := ⟨cb, j, none⟩) hcb).trans hv
  have st : Stay (fun b => P b ∨ S b) w (W.setCell ⟨cb, 3, none⟩ v') := fun b hb => by
    have hlt : b < w.heap.size ∧ b ≠ cb := by
      rcases hb with q | q
      · exact ⟨(h.rp b q).2.1, (h.rp b q).2.2.1⟩
      · exact ⟨(h.rs b q).2.1, (h.rs b q).2.2⟩
    rw [Below.heap_setCell _ _ _ b hlt.2]
    exact hg.block b hlt.1 (fun q => by
      rcases hb with r | r
      · exact (h.rp b r).2.2.2.1 q
      · exact (h.rf b q).2.2.2 r)
  refine ⟨P, fun b => (F b ∨ w.heap.size ≤ b) ∧ b < W.heap.size ∧ b ≠ cb, S, vp, v', ?_, ?_, ?_, ?_, ?_, ?_, ?_, ?_, ?_, ?_, ?_, ?_, ?_, h.nodup, ?_⟩
  · rw [cell_set_other (by omega)]; exact cc 0 _ h.g0
  · rw [cell_set_other (by omega)]; exact cc 1 _ h.g1
  · rw [cell_set_other (by omega)]; exact cc 2 _ h.p
  · exact cell_set_same (cc 3 _ h.f)
  · intro j
    rw [World.frozen?_setCell]
    exact (World.frozen?_of_block (a := ⟨cb, j, none⟩) hcb).trans (h.soft j)
  · exact h.own.on (fun b hb => st b (.inl hb))
  · rw [List.length_append, intsV_app]
    have h2 : OwnC (fun b => (F b ∨ w.heap.size ≤ b) ∧ b < W.heap.size ∧ b ≠ cb) W v' 1 (fl.length + 1) (intsV fl ++ [.int .i64 z]) := by
      rcases ho with q | ⟨g, cap, e, hq, h3, h4, h5, h6⟩
      · exact .inl q
      · refine .inr ⟨g, cap, e, ⟨hq, ?_, ?_⟩, h3, h4, h5, h6⟩
        · obtain ⟨u, hu⟩ := Option.isSome_iff_exists.1 (h6 0 (by omega)).1
          exact lt_of_cell hu
        · intro e
          subst e
          rcases hq with q | q
          · exact (h.rf _ q).2.2.1 rfl
          · have := h.cb0.2; omega
    exact h2.on (fun b hb => Below.heap_setCell _ _ _ b hb.2.2)
  · exact h.sets.on (fun b hb => st b (.inr hb))
  · intro b j hb
    have := st b (.inr hb)
    exact (World.frozen?_of_block (a := ⟨b, j, none⟩) this).trans (h.softS b j hb)
  · intro b hb
    have := h.rp b hb
    refine ⟨this.1, by rw [hz]; omega, this.2.2.1, fun r => ?_, this.2.2.2.2⟩
    rcases r.1 with q | q
    · exact this.2.2.2.1 q
    · omega
  · rintro b ⟨q, q2, q3⟩
    rw [hz]
    rcases q with q | q
    · have := h.rf b q
      exact ⟨this.1, q2, q3, this.2.2.2⟩
    · exact ⟨by omega, q2, q3, fun r => by have := (h.rs b r).2.1; omega⟩
  · intro b hb
    have := h.rs b hb
    exact ⟨this.1, by rw [hz]; omega, this.2.2⟩
  · exact ⟨h.cb0.1, by rw [hz]; have := h.cb0.2; omega⟩
  · refine ⟨hg.os.trans h.bel.os, hg.tape.trans h.bel.tape, hg.output.trans h.bel.output, by rw [hz]; omega, fun b hb => ?_⟩
    rw [Below.heap_setCell _ _ _ b (fun e => by have := h.cb0.1; simp at e; omega)]
    exact (hg.block b (by omega) (fun q => by have := (h.rf b q).1; omega)).trans (h.bel.block b hb)

/-! ### A To that is turned -/
def toI (x : IC) (t : Int) : IC := ⟨{ x.d with to := t }, x.a, x.c⟩
theorem cellsI_set : ∀ (l : List IC) (i : Nat) (x : IC) (t : Int), l[i]? = some x → cellsI (l.set i (toI x t)) = (cellsI l).set (i * 4 + 2) (.int .i64 t)
  | [], i, x, t, h => by simp at h
  | y :: l, 0, x, t, h => by
    simp at h
    subst h
    simp [cellsI, icv, toI]
  | y :: l, i + 1, x, t, h => by
    simp at h
    rw [List.set_cons_succ, cellsI, cellsI, cellsI_set l i x t h, show (i + 1) * 4 + 2 = (icv y).length + (i * 4 + 2) by rw [icv_len]; omega]
    rw [List.set_append_right _ _ (by omega)]
    congr 2
    omega
theorem blks_set : ∀ (l : List IC) (i : Nat) (x : IC) (t : Int), l[i]? = some x → blks (l.set i (toI x t)) = blks l
  | [], i, x, t, h => by simp at h
  | y :: l, 0, x, t, h => by
    simp at h
    subst h
    have e : blk (toI y t) = blk y := rfl
    rw [List.set_cons_zero]
    unfold blks
    rw [List.filterMap_cons, List.filterMap_cons, e]
  | y :: l, i + 1, x, t, h => by
    simp at h
    have := blks_set l i x t h
    rw [List.set_cons_succ]
    unfold blks at *
    rw [List.filterMap_cons, List.filterMap_cons, this]
theorem mem_set {l : List IC} {i : Nat} {x y : IC} {t : Int} (h : l[i]? = some x) (hy : y ∈ l.set i (toI x t)) : y ∈ l ∨ y = toI x t := by
  rcases List.mem_or_eq_of_mem_set hy with q | q
  · exact .inl q
  · exact .inr q

theorem CP.aim {w0 : World} {cb : Nat} {u0 u1 : Value} {l : List IC} {fl : List Int} {w : World} {P F S : Nat → Prop} {vf : Value} {g n cap i : Nat} {x : IC} {t : Int} (h : CP w0 cb u0 u1 l [] fl w P F S (.slice (some ⟨g, 0, none⟩) n cap) vf) (hx : l[i]? = some x) :
    CP w0 cb u0 u1 (l.set i (toI x t)) [] fl (w.setCell ⟨g, i * 4 + 2, none⟩ (.int .i64 t)) P F S (.slice (some ⟨g, 0, none⟩) n cap) vf := by
  obtain ⟨hP, hrow⟩ : P g ∧ True := by
    rcases h.own with ⟨q, _⟩ | ⟨g', cap', q, hq, _⟩
    · cases q
    · cases q; exact ⟨hq, trivial⟩
  have hr := h.rp g hP
  have hz : (w.setCell ⟨g, i * 4 + 2, none⟩ (.int .i64 t)).heap.size = w.heap.size := size_set _ _ _
  have hi : i < l.length := (List.getElem?_eq_some_iff.1 hx).1
  have ob : ∀ b, b ≠ g → (w.setCell ⟨g, i * 4 + 2, none⟩ (.int .i64 t)).heap[b]? = w.heap[b]? := fun b hb => Below.heap_setCell _ _ _ b hb
  have oc : ∀ b j, b ≠ g → (w.setCell ⟨g, i * 4 + 2, none⟩ (.int .i64 t)).cell? ⟨b, j, none⟩ = w.cell? ⟨b, j, none⟩ := fun b j hb => World.cell?_of_block (a := ⟨b, j, none⟩) (ob b hb)
  have hcg : cb ≠ g := fun e => hr.2.2.1 e.symm
  refine ⟨by rw [oc cb 0 hcg]; exact h.g0, by rw [oc cb 1 hcg]; exact h.g1, by rw [oc cb 2 hcg]; exact h.p, by rw [oc cb 3 hcg]; exact h.f, fun j => by rw [World.frozen?_setCell]; exact h.soft j, ?_, h.ownf.on (fun b hb => ob b (fun e => by subst e; exact hr.2.2.2.1 hb)), ?_, fun b j hb => by rw [World.frozen?_setCell]; exact h.softS b j hb, fun b hb => by rw [hz]; exact h.rp b hb, fun b hb => by rw [hz]; exact h.rf b hb, fun b hb => by rw [hz]; exact h.rs b hb, by rw [hz]; exact h.cb0, ?_, ?_⟩
  · rcases h.own with ⟨q, _⟩ | ⟨g', cap', q, hq, h3, h4, h5, h6⟩
    · cases q
    · cases q
      rw [List.length_set]
      refine .inr ⟨g, cap, rfl, hP, by rw [cellsI_set l i x t hx, List.length_set]; exact h3, h4, fun j hj => ?_, fun j hj => ⟨?_, ?_⟩⟩
      · rw [cellsI_set l i x t hx, List.length_set] at hj
        rw [cellsI_set l i x t hx]
        by_cases e : j = i * 4 + 2
        · subst e
          obtain ⟨u, hu⟩ := Option.isSome_iff_exists.1 (h6 (i * 4 + 2) (by omega)).1
          rw [cell_set_same hu, List.getElem?_set_self hj]
        · rw [cell_set_other (by omega), h5 j hj, List.getElem?_set_ne (by omega)]
      · by_cases e : j = i * 4 + 2
        · subst e
          obtain ⟨u, hu⟩ := Option.isSome_iff_exists.1 (h6 (i * 4 + 2) hj).1
          rw [cell_set_same hu]; rfl
        · rw [cell_set_other (by omega)]; exact (h6 j hj).1
      · rw [World.frozen?_setCell]; exact (h6 j hj).2
  · rw [List.append_nil]
    have hs := h.sets
    rw [List.append_nil] at hs
    have hs' : SetsA S w (l.set i (toI x t)) := fun y hy => by
      rcases mem_set hx hy with q | q
      · exact hs y q
      · subst q; exact hs x (List.mem_of_getElem? hx)
    exact hs'.on (fun b hb => ob b (fun e => by subst e; exact hr.2.2.2.2 hb))
  · rw [List.append_nil, blks_set l i x t hx]
    have := h.nodup
    rw [List.append_nil] at this
    exact this
  · exact ⟨h.bel.os, h.bel.tape, h.bel.output, by rw [hz]; exact h.bel.size, fun b hb => (ob b (fun e => by subst e; have := hr.1; omega)).trans (h.bel.block b hb)⟩

end Go.Proofs.Ytjndcajblpgjmaa
