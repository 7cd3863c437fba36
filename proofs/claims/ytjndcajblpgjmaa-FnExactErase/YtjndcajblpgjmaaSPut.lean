/-
  Walks: an element of a copied body, written anew.
-/
import Derived.Test.YtjndcajblpgjmaaSCopyW
namespace Go.Proofs.Ytjndcajblpgjmaa
open Go.RowKit
open M (OpD NodeD Gr)
set_option linter.unusedVariables false
set_option linter.unusedSimpArgs false

def updB (B : Nat → OpD) (m : Nat) (d : OpD) : Nat → OpD := fun i => if i = m then d else B i
theorem updB_ne {B : Nat → OpD} {m i : Nat} {d : OpD} (h : i ≠ m) : updB B m d i = B i := by unfold updB; rw [if_neg h]
theorem updB_at {B : Nat → OpD} {m : Nat} {d : OpD} : updB B m d m = d := by simp [updB]
theorem updf_ne {f : Nat → Option Addr × Nat} {k i : Nat} {x : Option Addr × Nat} (h : i ≠ k) : updf f k x i = f i := by unfold updf; rw [if_neg h]

theorem CpB.put {w wr : World} {B : Nat → OpD} {n m b cap : Nat} {Qs : Nat → Prop} {f : Nat → Option Addr × Nat} (h : CpB w wr B n (.slice (some ⟨b, 0, none⟩) n cap) Qs f) (hm : m < n) (d : OpD) (hd : d.sl = 0) :
    CpB w (((wr.setCell ⟨b, m * 3, none⟩ (.int .i64 d.kind)).setCell ⟨b, m * 3 + 1, none⟩ (.slice none 0 0)).setCell ⟨b, m * 3 + 2, none⟩ (.int .i64 d.arg)) (updB B m d) n (.slice (some ⟨b, 0, none⟩) n cap) Qs (updf f m (none, 0)) := by
  rcases h.own with ⟨q, _, _⟩ | ⟨b', cap', e, hq, hl, hc, hcs, hwr⟩
  · cases q
  cases e
  have hlen := opvs_len B f n
  have cell : ∀ i, i < n → wr.cell? ⟨b, i * 3, none⟩ = some (.int .i64 (B i).kind) ∧ wr.cell? ⟨b, i * 3 + 1, none⟩ = some (.slice (f i).1 (B i).sl (f i).2) ∧ wr.cell? ⟨b, i * 3 + 2, none⟩ = some (.int .i64 (B i).arg) := fun i hi => by
    obtain ⟨g0, g1, g2⟩ := opvs_get B f n i hi
    exact ⟨(hcs _ (by omega)).trans g0, (hcs _ (by omega)).trans g1, (hcs _ (by omega)).trans g2⟩
  obtain ⟨m0, m1, m2⟩ := cell m hm
  have ne : ∀ {x y : Nat}, x ≠ y → (⟨b, x, none⟩ : Addr) ≠ ⟨b, y, none⟩ := fun hxy q => hxy (by injection q)
  have far : ∀ x, b ≠ x → (((wr.setCell ⟨b, m * 3, none⟩ (.int .i64 d.kind)).setCell ⟨b, m * 3 + 1, none⟩ (.slice none 0 0)).setCell ⟨b, m * 3 + 2, none⟩ (.int .i64 d.arg)).heap[x]? = wr.heap[x]? := fun x hx => by
    rw [Below.heap_setCell _ _ _ x (fun e => hx e.symm), Below.heap_setCell _ _ _ x (fun e => hx e.symm), Below.heap_setCell _ _ _ x (fun e => hx e.symm)]
  have a1 : (wr.setCell ⟨b, m * 3, none⟩ (.int .i64 d.kind)).cell? ⟨b, m * 3 + 1, none⟩ = some (.slice (f m).1 (B m).sl (f m).2) := (World.cell?_setCell_other _ _ _ _ (ne (by omega))).trans m1
  have a2 : ((wr.setCell ⟨b, m * 3, none⟩ (.int .i64 d.kind)).setCell ⟨b, m * 3 + 1, none⟩ (.slice none 0 0)).cell? ⟨b, m * 3 + 2, none⟩ = some (.int .i64 (B m).arg) := (World.cell?_setCell_other _ _ _ _ (ne (by omega))).trans ((World.cell?_setCell_other _ _ _ _ (ne (by omega))).trans m2)
  have oth : ∀ x, x ≠ m * 3 → x ≠ m * 3 + 1 → x ≠ m * 3 + 2 → (((wr.setCell ⟨b, m * 3, none⟩ (.int .i64 d.kind)).setCell ⟨b, m * 3 + 1, none⟩ (.slice none 0 0)).setCell ⟨b, m * 3 + 2, none⟩ (.int .i64 d.arg)).cell? ⟨b, x, none⟩ = wr.cell? ⟨b, x, none⟩ := fun x h0 h1 h2 =>
    (World.cell?_setCell_other _ _ _ _ (ne (fun q => h2 q.symm))).trans ((World.cell?_setCell_other _ _ _ _ (ne (fun q => h1 q.symm))).trans (World.cell?_setCell_other _ _ _ _ (ne (fun q => h0 q.symm))))
  have r0 : (((wr.setCell ⟨b, m * 3, none⟩ (.int .i64 d.kind)).setCell ⟨b, m * 3 + 1, none⟩ (.slice none 0 0)).setCell ⟨b, m * 3 + 2, none⟩ (.int .i64 d.arg)).cell? ⟨b, m * 3, none⟩ = some (.int .i64 d.kind) :=
    (World.cell?_setCell_other _ _ _ _ (ne (by omega))).trans ((World.cell?_setCell_other _ _ _ _ (ne (by omega))).trans (World.cell?_setCell_same _ _ _ m0))
  have r1 : (((wr.setCell ⟨b, m * 3, none⟩ (.int .i64 d.kind)).setCell ⟨b, m * 3 + 1, none⟩ (.slice none 0 0)).setCell ⟨b, m * 3 + 2, none⟩ (.int .i64 d.arg)).cell? ⟨b, m * 3 + 1, none⟩ = some (.slice none 0 0) :=
    (World.cell?_setCell_other _ _ _ _ (ne (by omega))).trans (World.cell?_setCell_same _ _ _ a1)
  have r2 : (((wr.setCell ⟨b, m * 3, none⟩ (.int .i64 d.kind)).setCell ⟨b, m * 3 + 1, none⟩ (.slice none 0 0)).setCell ⟨b, m * 3 + 2, none⟩ (.int .i64 d.arg)).cell? ⟨b, m * 3 + 2, none⟩ = some (.int .i64 d.arg) := World.cell?_setCell_same _ _ _ a2
  generalize hW : ((wr.setCell ⟨b, m * 3, none⟩ (.int .i64 d.kind)).setCell ⟨b, m * 3 + 1, none⟩ (.slice none 0 0)).setCell ⟨b, m * 3 + 2, none⟩ (.int .i64 d.arg) = W at *
  have hsz : W.heap.size = wr.heap.size := by rw [← hW, size_set, size_set, size_set]
  have hfz : ∀ x, W.frozen? x = wr.frozen? x := fun x => by rw [← hW, World.frozen?_setCell, World.frozen?_setCell, World.frozen?_setCell]
  have hnew : ∀ x, New w wr x → New w W x := fun x hx => ⟨hx.1, by rw [hsz]; exact hx.2⟩
  refine ⟨.inr ⟨b, cap, rfl, ⟨hnew _ hq.1, hq.2⟩, opvs_len _ _ n, hc, fun j hj => ?_, fun j hj => ?_⟩, fun x hx => hnew x (h.new x hx), fun i hi => ?_, ?_, ?_⟩
  · rw [opvs_len] at hj
    have hi : j / 3 < n := by omega
    obtain ⟨g0, g1, g2⟩ := opvs_get (updB B m d) (updf f m (none, 0)) n (j / 3) hi
    obtain ⟨k0, k1, k2⟩ := cell (j / 3) hi
    have hj3 : j = j / 3 * 3 ∨ j = j / 3 * 3 + 1 ∨ j = j / 3 * 3 + 2 := by omega
    by_cases e : j / 3 = m
    · rw [e] at g0 g1 g2 hj3
      rw [updB_at] at g0 g1 g2
      rw [updf_at, hd] at g1
      rcases hj3 with q | q | q
      · rw [q, g0]; exact r0
      · rw [q, g1]; exact r1
      · rw [q, g2]; exact r2
    · rw [updB_ne e] at g0 g1 g2
      rw [updf_ne e] at g1
      rw [oth j (by omega) (by omega) (by omega)]
      generalize j / 3 = i at *
      rcases hj3 with q | q | q
      · rw [q, g0]; exact k0
      · rw [q, g1]; exact k1
      · rw [q, g2]; exact k2
  · obtain ⟨q1, q2⟩ := hwr j hj
    refine ⟨?_, (hfz _).trans q2⟩
    by_cases e : j = m * 3 ∨ j = m * 3 + 1 ∨ j = m * 3 + 2
    · rcases e with q | q | q
      · rw [q, r0]; rfl
      · rw [q, r1]; rfl
      · rw [q, r2]; rfl
    · rw [oth j (by omega) (by omega) (by omega)]; exact q1
  · by_cases e : i = m
    · subst e
      rw [updB_at]
      exact .inl hd
    · rw [updB_ne e, updf_ne e]
      exact (h.set i hi).on (fun x hx => far x (fun q => hq.2 (q ▸ hx)))
  · rw [← hW]
    exact bel_set (bel_set (bel_set h.bel _ _ _ hq.1.1) _ _ _ hq.1.1) _ _ _ hq.1.1
  · rw [← hW]
    exact ((h.soft.set _ _).set _ _).set _ _

end Go.Proofs.Ytjndcajblpgjmaa
