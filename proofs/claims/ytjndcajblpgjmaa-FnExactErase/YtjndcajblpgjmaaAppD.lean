/-
  Walks: an append of what may be empty, to what may be nil.
-/
import Derived.Test.YtjndcajblpgjmaaEraseW
namespace Go.Proofs.Ytjndcajblpgjmaa
open Go.RowKit
open M (OpD NodeD Gr)
set_option linter.unusedVariables false

theorem appN_run {w : World} {x : Value} {sz bytes : Nat} {news : List Value} {t tx e : TypeId} (ty : TypeId) (hE : ElemT t e sz bytes) (hs : Src Try.prog sz tx x 0 news w) :
    (Builtin.append_ #[t, tx] ty #[.slice none 0 0, x]).run Try.prog w = .ok (.slice none 0 0) w := by
  obtain ⟨z, hi, hzc⟩ := hE.info
  obtain ⟨i, hi', hzz⟩ := Option.map_eq_some_iff.1 hi
  simp only [Prod.mk.injEq] at hzz
  obtain ⟨hz0, hz1, hz2⟩ := hzz
  have hc := hs.cells
  rw [← hz1] at hc
  rcases hs.kind with ⟨e', hk⟩ | hk <;> simp [Builtin.append_, run_underlying hE.und, run_underlying hk, sizeOf, typeInfo, hi', hs.len, hc]

/-- An append, whatever its length. -/
theorem appD_run {Q : Nat → Prop} {w : World} {v x : Value} {sz bytes n m : Nat} {cs news : List Value} {t tx e : TypeId} (ty : TypeId) (hE : ElemT t e sz bytes) (hown : OwnC Q w v sz n cs) (hs : Src Try.prog sz tx x m news w) (hlen : n + m ≤ 16777216) :
    ∃ v' w', (Builtin.append_ #[t, tx] ty #[v, x]).run Try.prog w = .ok v' w' ∧ OwnC (fun b => Q b ∨ w.heap.size ≤ b) w' v' sz (n + m) (cs ++ news) ∧ Grew (fun b => Q b) w w' ∧ w'.heap.size ≤ w.heap.size + 1 := by
  by_cases hm : v = .slice none 0 0 → 0 < m
  · exact appC_run' ty hE hown hs hlen hm
  · have hv : v = .slice none 0 0 := Classical.byContradiction (fun h => hm (fun q => absurd q h))
    obtain rfl : m = 0 := by
      by_cases h : m = 0
      · exact h
      · exact absurd (fun _ => by omega) hm
    have hl := hs.newsLen
    obtain rfl : news = [] := List.eq_nil_of_length_eq_zero (by omega)
    subst hv
    have h0 : n = 0 ∧ cs = [] := by
      rcases hown with ⟨_, h, h'⟩ | ⟨g, cap, h, _⟩
      · exact ⟨h, h'⟩
      · cases h
    obtain ⟨rfl, rfl⟩ := h0
    exact ⟨_, _, appN_run ty hE hs, .inl ⟨rfl, rfl, rfl⟩, ⟨rfl, rfl, rfl, Nat.le_refl _, fun _ _ _ => rfl, fun _ _ _ => rfl, fun _ _ h1 h2 => absurd h2 (by omega)⟩, by omega⟩

theorem appD {ops : Array Oper} {rest : List Oper} {o : Oper} {a : Act} {P' : Exit → Act → World → Prop} {w : World} (hgd : o.guard = none) (s x : Operand) (t tx : TypeId) (ho : o.op = .call { callee := .builtin .append, args := #[s, x], argTypes := #[t, tx] })
    {Q : Nat → Prop} {v y : Value} {e : TypeId} {sz bytes n m : Nat} {cs news : List Value} (hs : a.eval s = v) (hx : a.eval x = y) (hE : ElemT t e sz bytes) (hown : OwnC Q w v sz n cs) (hsrc : Src Try.prog sz tx y m news w) (hlen : n + m ≤ 16777216)
    (h : ∀ v' w', OwnC (fun b => Q b ∨ w.heap.size ≤ b) w' v' sz (n + m) (cs ++ news) → Grew (fun b => Q b) w w' → w'.heap.size ≤ w.heap.size + 1 → wpList Try.prog ops P' rest (a.put o.dst v') w') : wpList Try.prog ops P' (o :: rest) a w := by
  refine wpList_plain hgd fun K hK => ?_
  obtain ⟨v', w', hr, h1, h2, h3⟩ := appD_run o.type hE hown hsrc hlen
  unfold Oper.wp execOp
  simp only [ho, resolve, invoke, builtin, Sem.run_bind, Sem.run_pure, Result.andThen_ok, List.map_toArray, List.map_cons, List.map_nil, hs, hx, hr]
  exact hK _ _ (h v' w' h1 h2 h3)

theorem stepD {ops : Array Oper} {o : Oper} {a : Act} {w : World} {K : Act → World → Prop} {P' : Exit → Act → World → Prop} {E : Prop} (hgd : o.guard = none) (s x : Operand) (t tx : TypeId) (ho : o.op = .call { callee := .builtin .append, args := #[s, x], argTypes := #[t, tx] })
    {Q : Nat → Prop} {v y : Value} {e : TypeId} {sz bytes n m : Nat} {cs news : List Value} (hs : a.eval s = v) (hx : a.eval x = y) (hE : ElemT t e sz bytes) (hown : OwnC Q w v sz n cs) (hsrc : Src Try.prog sz tx y m news w) (hlen : n + m ≤ 16777216)
    (h : ∀ v' w', OwnC (fun b => Q b ∨ w.heap.size ≤ b) w' v' sz (n + m) (cs ++ news) → Grew (fun b => Q b) w w' → w'.heap.size ≤ w.heap.size + 1 → K (a.put o.dst v') w') : if Region.wanted o (yielded ops a.tmps) = true then Oper.wp Try.prog o a w K P' else E := by
  have hw : Region.wanted o (yielded ops a.tmps) = true := by simp [Region.wanted, hgd]
  rw [if_pos hw]
  obtain ⟨v', w', hr, h1, h2, h3⟩ := appD_run o.type hE hown hsrc hlen
  unfold Oper.wp execOp
  simp only [ho, resolve, invoke, builtin, Sem.run_bind, Sem.run_pure, Result.andThen_ok, List.map_toArray, List.map_cons, List.map_nil, hs, hx, hr]
  exact h v' w' h1 h2 h3

/-- Numbers as what is appended, nil or not. -/
theorem Ints.srcD {Q : Nat → Prop} {k : IntKind} {w : World} {a : Option Addr} {n c : Nat} {S : Nat → Int} {tx e : TypeId} (hk : Try.prog.underlying tx = some (.slice e)) (h : Ints Q k w a n S) : Src Try.prog 1 tx (.slice a n c) n (intVs k S n) w := by
  cases a with
  | some x => exact h.src hk
  | none =>
    have h0 : n = 0 := by
      rcases h with h | ⟨_, _, e, _⟩
      · exact h
      · cases e
    subst h0
    exact Src.ofNil w hk c

/-- One element as what is appended. -/
theorem src_three {w : World} {g : Nat} {u0 u1 u2 : Value} (h0 : w.cell? ⟨g, 0, none⟩ = some u0) (h1 : w.cell? ⟨g, 1, none⟩ = some u1) (h2 : w.cell? ⟨g, 2, none⟩ = some u2) (o0 : u0.oneCell' = true) (o1 : u1.oneCell' = true) (o2 : u2.oneCell' = true) : Src Try.prog 3 74 (.slice (some ⟨g, 0, none⟩) 1 1) 1 [u0, u1, u2] w := by
  refine Src.ofSlice (P := Try.prog) w Try.underlying74 ⟨g, 0, none⟩ 1 1 [u0, u1, u2] rfl (fun j u hu => ?_) (fun u hu => ?_)
  · match j, hu with
    | 0, hu => simp at hu; subst hu; simpa [Addr.add] using h0
    | 1, hu => simp at hu; subst hu; simpa [Addr.add] using h1
    | 2, hu => simp at hu; subst hu; simpa [Addr.add] using h2
    | j + 3, hu => simp at hu
  · simp at hu
    rcases hu with rfl | rfl | rfl
    · exact o0
    · exact o1
    · exact o2

end Go.Proofs.Ytjndcajblpgjmaa
