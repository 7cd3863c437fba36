/-
  Walks: the line that holds an offset; the line with a number.
-/
import Derived.Test.YtcllnadfbmkigaaLines
import Derived.Test.YtcllnadfbmkigaaColumn
namespace Go.Proofs.Ytcllnadfbmkigaa
open Go.RowKit Go.Shelf
set_option linter.unusedVariables false
attribute [local go_sem] Oper.semAt_some

/-- What the function's own boxes hold between two rounds: the argument at y, the line that is answered at y + 1, whether there is one at y + 2. -/
structure HoOwn (w : World) (y : Nat) (q : Int) (x : World) : Prop where
  arg : x.cell? ⟨y, 0, none⟩ = some (.int .i64 q)
  r0 : ∃ v, x.cell? ⟨y + 1, 0, none⟩ = some v
  r1 : ∃ v, x.cell? ⟨y + 1, 1, none⟩ = some v
  r2 : ∃ v, x.cell? ⟨y + 1, 2, none⟩ = some v
  rf0 : x.frozen? ⟨y + 1, 0, none⟩ = false
  rf1 : x.frozen? ⟨y + 1, 1, none⟩ = false
  rf2 : x.frozen? ⟨y + 1, 2, none⟩ = false
  r3 : ∃ v, x.cell? ⟨y + 1 + 1, 0, none⟩ = some v
  rf3 : x.frozen? ⟨y + 1 + 1, 0, none⟩ = false
  bel : Below y w x
  size : y + 4 ≤ x.heap.size

theorem HoOwn.below {w : World} {y : Nat} {q : Int} {x z : World} (h : HoOwn w y q x) (hb : Below (y + 4) x z) : HoOwn w y q z := by
  have c : ∀ k o, k < y + 4 → z.cell? ⟨k, o, none⟩ = x.cell? ⟨k, o, none⟩ := fun k o hk => hb.cell (p := ⟨k, o, none⟩) hk
  have f : ∀ k o, k < y + 4 → z.frozen? ⟨k, o, none⟩ = x.frozen? ⟨k, o, none⟩ := fun k o hk => hb.frozen (p := ⟨k, o, none⟩) hk
  exact ⟨(c _ _ (by omega)).trans h.arg, h.r0.imp fun _ e => (c _ _ (by omega)).trans e, h.r1.imp fun _ e => (c _ _ (by omega)).trans e, h.r2.imp fun _ e => (c _ _ (by omega)).trans e,
    (f _ _ (by omega)).trans h.rf0, (f _ _ (by omega)).trans h.rf1, (f _ _ (by omega)).trans h.rf2, h.r3.imp fun _ e => (c _ _ (by omega)).trans e, (f _ _ (by omega)).trans h.rf3,
    h.bel.trans (hb.mono (by omega)), Nat.le_trans h.size hb.size⟩

theorem frozen3New (W : World) (v0 v1 v2 : Value) (t : TypeId) (o : Nat) : (W.alloc (.cells #[v0, v1, v2] t)).frozen? ⟨W.heap.size, o, none⟩ = false := by
  have h := World.alloc_heap_new W (.cells #[v0, v1, v2] t)
  simp only [World.frozen?, h]; simp

/-- The world behind the four stores of an answer. -/
abbrev put4 (x : World) (y : Nat) (a0 a1 a2 a3 : Value) : World :=
  (((x.setCell ⟨y + 1, 0, none⟩ a0).setCell ⟨y + 1, 1, none⟩ a1).setCell ⟨y + 1, 2, none⟩ a2).setCell ⟨y + 1 + 1, 0, none⟩ a3

theorem put4_cells {x : World} {y : Nat} {v0 v1 v2 v3 : Value} (a0 a1 a2 a3 : Value) (h0 : x.cell? ⟨y + 1, 0, none⟩ = some v0) (h1 : x.cell? ⟨y + 1, 1, none⟩ = some v1) (h2 : x.cell? ⟨y + 1, 2, none⟩ = some v2) (h3 : x.cell? ⟨y + 1 + 1, 0, none⟩ = some v3) :
    (put4 x y a0 a1 a2 a3).cell? ⟨y + 1, 0, none⟩ = some a0 ∧ (put4 x y a0 a1 a2 a3).cell? ⟨y + 1, 1, none⟩ = some a1 ∧ (put4 x y a0 a1 a2 a3).cell? ⟨y + 1, 2, none⟩ = some a2 ∧ (put4 x y a0 a1 a2 a3).cell? ⟨y + 1 + 1, 0, none⟩ = some a3 := by
  have e1 : (⟨y + 1, 0, none⟩ : Addr) ≠ ⟨y + 1, 1, none⟩ := by simp
  have e2 : (⟨y + 1, 0, none⟩ : Addr) ≠ ⟨y + 1, 2, none⟩ := by simp
  have e3 : (⟨y + 1, 1, none⟩ : Addr) ≠ ⟨y + 1, 2, none⟩ := by simp
  have e4 : ∀ o, (⟨y + 1 + 1, 0, none⟩ : Addr) ≠ ⟨y + 1, o, none⟩ := by simp
  have same : ∀ (W : World) (a : Addr) (v u : Value), W.cell? a = some u → (W.setCell a v).cell? a = some v := fun W a v u h => World.cell?_setCell_same' W a v (by rw [h]; rfl)
  have other : ∀ (W : World) (a c : Addr) (v : Value), a ≠ c → (W.setCell a v).cell? c = W.cell? c := fun W a c v h => by first | exact World.cell?_setCell_other h | exact World.cell?_setCell_other W a c v h | exact World.cell?_setCell_other _ _ _ _ h
  have g0 := same x ⟨y + 1, 0, none⟩ a0 _ h0
  have g1 := same _ ⟨y + 1, 1, none⟩ a1 _ ((other x ⟨y + 1, 0, none⟩ ⟨y + 1, 1, none⟩ a0 e1).trans h1)
  have g2 := same _ ⟨y + 1, 2, none⟩ a2 _ ((other (x.setCell ⟨y + 1, 0, none⟩ a0) ⟨y + 1, 1, none⟩ ⟨y + 1, 2, none⟩ a1 e3).trans ((other x ⟨y + 1, 0, none⟩ ⟨y + 1, 2, none⟩ a0 e2).trans h2))
  have g3 := same _ ⟨y + 1 + 1, 0, none⟩ a3 _ ((other ((x.setCell ⟨y + 1, 0, none⟩ a0).setCell ⟨y + 1, 1, none⟩ a1) ⟨y + 1, 2, none⟩ ⟨y + 1 + 1, 0, none⟩ a2 (e4 2).symm).trans ((other (x.setCell ⟨y + 1, 0, none⟩ a0) ⟨y + 1, 1, none⟩ ⟨y + 1 + 1, 0, none⟩ a1 (e4 1).symm).trans ((other x ⟨y + 1, 0, none⟩ ⟨y + 1 + 1, 0, none⟩ a0 (e4 0).symm).trans h3)))
  exact ⟨(other _ _ _ _ (e4 0)).trans ((other _ _ _ _ e2.symm).trans ((other _ _ _ _ e1.symm).trans g0)),
    (other _ _ _ _ (e4 1)).trans ((other _ _ _ _ e3.symm).trans g1), (other _ _ _ _ (e4 2)).trans g2, g3⟩

theorem put4_keep (x : World) (y : Nat) (a0 a1 a2 a3 : Value) : Keep (fun k => k = y + 1 ∨ k = y + 1 + 1) x (put4 x y a0 a1 a2 a3) :=
  (((Keep.setCell _ _ _ (.inl rfl)).trans (Keep.setCell _ _ _ (.inl rfl))).trans (Keep.setCell _ _ _ (.inl rfl))).trans (Keep.setCell _ _ _ (.inr rfl))

theorem lnLen_at {T : Nat → Int} {n f : Nat} (h : f + lnLen T n f < n) : T (f + lnLen T n f) = 10 := eolen_at (sh T f) (n - f) (by show lnLen T n f < n - f; omega)
theorem lnLen_not {T : Nat → Int} {n f j : Nat} (h1 : f ≤ j) (h2 : j < f + lnLen T n f) : T j ≠ 10 := by
  have := eolen_not (sh T f) (n - f) (j - f) (by show j - f < lnLen T n f; omega)
  unfold sh at this
  rwa [Nat.add_sub_cancel' h1] at this
theorem cnt_next {T : Nat → Int} {n f : Nat} (h : f + lnLen T n f < n) : M.cnt T (f + lnLen T n f + 1) = M.cnt T f + 1 := by
  rw [M.cnt_nl _ _ (lnLen_at h), M.cnt_same T f (f + lnLen T n f) (by omega) (fun j h1 h2 => lnLen_not h1 h2)]
theorem hold_next {T : Nat → Int} {n num fr : Nat} {q : Int} (hf : fr ≤ n)
    (h : fr ≤ n + 1 ∧ num ≤ fr + 1 ∧ (fr ≤ n → num = 1 + M.cnt T fr ∧ (fr = 0 ∨ T (fr - 1) = 10)) ∧ (0 ≤ q → (fr : Int) ≤ q)) (hq : ¬ ((fr : Int) ≤ q ∧ q ≤ (fr : Int) + (lnLen T n fr : Int))) :
    (lnNext T n (num, fr)).2 ≤ n + 1 ∧ (lnNext T n (num, fr)).1 ≤ (lnNext T n (num, fr)).2 + 1 ∧ ((lnNext T n (num, fr)).2 ≤ n → (lnNext T n (num, fr)).1 = 1 + M.cnt T (lnNext T n (num, fr)).2 ∧ ((lnNext T n (num, fr)).2 = 0 ∨ T ((lnNext T n (num, fr)).2 - 1) = 10)) ∧ (0 ≤ q → ((lnNext T n (num, fr)).2 : Int) ≤ q) := by
  have hl := lnLen_le T n fr
  show fr + lnLen T n fr + 1 ≤ n + 1 ∧ num + 1 ≤ fr + lnLen T n fr + 1 + 1 ∧ (fr + lnLen T n fr + 1 ≤ n → num + 1 = 1 + M.cnt T (fr + lnLen T n fr + 1) ∧ (fr + lnLen T n fr + 1 = 0 ∨ T (fr + lnLen T n fr + 1 - 1) = 10)) ∧ (0 ≤ q → ((fr + lnLen T n fr + 1 : Nat) : Int) ≤ q)
  refine ⟨by omega, by omega, fun hn => ⟨?_, .inr ?_⟩, fun h0 => ?_⟩
  · rw [cnt_next (by omega), (h.2.2.1 hf).1]; omega
  · rw [Nat.add_sub_cancel]; exact lnLen_at (by omega)
  · have := h.2.2.2 h0; omega

end Go.Proofs.Ytcllnadfbmkigaa
