/-
  Lists of instructions in memory: rows that grow, each set in a block of its own.
-/
import Derived.Test.YtjndcajblpgjmaaCPure
import Derived.Test.YtjndcajblpgjmaaAppC
import Derived.Test.YtjndcajblpgjmaaMarkS
namespace Go.Proofs.Ytjndcajblpgjmaa
open Go.RowKit
open M (OpD NodeD Gr InsD EX ins)
set_option linter.unusedVariables false
set_option linter.unusedSimpArgs false

/-- An instruction with the slice of its set. -/
structure IC where
  d : InsD
  a : Option Addr
  c : Nat
def icv (x : IC) : List Value := [.int .i64 x.d.kind, .int .i64 x.d.arg, .int .i64 x.d.to, .slice x.a x.d.sl x.c]
/-- An instruction without a set. -/
def ic (k a t : Int) : IC := ⟨ins k a t, none, 0⟩
def cellsI : List IC → List Value
  | [] => []
  | x :: l => icv x ++ cellsI l
theorem icv_len (x : IC) : (icv x).length = 4 := rfl
theorem cellsI_len (l : List IC) : (cellsI l).length = l.length * 4 := by
  induction l with
  | nil => rfl
  | cons x l ih => rw [cellsI, List.length_append, ih, icv_len]; simp only [List.length_cons]; omega
theorem cellsI_app (l m : List IC) : cellsI (l ++ m) = cellsI l ++ cellsI m := by
  induction l with
  | nil => rfl
  | cons x l ih => rw [List.cons_append, cellsI, cellsI, ih, List.append_assoc]
theorem cellsI_get : ∀ (l : List IC) (i j : Nat) (x : IC), l[i]? = some x → j < 4 → (cellsI l)[i * 4 + j]? = (icv x)[j]?
  | [], i, j, x, h, _ => by simp at h
  | y :: l, 0, j, x, h, hj => by
    simp at h
    subst h
    rw [cellsI, List.getElem?_append_left (by rw [icv_len]; omega)]
    simp
  | y :: l, i + 1, j, x, h, hj => by
    simp at h
    rw [cellsI, List.getElem?_append_right (by rw [icv_len]; omega), icv_len, show (i + 1) * 4 + j - 4 = i * 4 + j by omega]
    exact cellsI_get l i j x h hj
theorem cellsI_one (l : List IC) : ∀ u, u ∈ cellsI l → u.oneCell' = true := by
  induction l with
  | nil => intro u hu; cases hu
  | cons x l ih =>
    intro u hu
    rw [cellsI] at hu
    rcases List.mem_append.1 hu with h | h
    · simp [icv] at h
      rcases h with rfl | rfl | rfl | rfl <;> rfl
    · exact ih u h

/-- The sets of a list lie in blocks of S. -/
def SetsA (S : Nat → Prop) (w : World) (l : List IC) : Prop := ∀ x, x ∈ l → Ints S .i64 w x.a x.d.sl x.d.set
theorem SetsA.on {S : Nat → Prop} {w w' : World} {l : List IC} (h : SetsA S w l) (k : Stay S w w') : SetsA S w' l := fun x hx => (h x hx).on k
theorem SetsA.later {S : Nat → Prop} {w w' : World} {l : List IC} (h : SetsA S w l) (k : Below w.heap.size w w') : SetsA S w' l := fun x hx => (h x hx).later k
theorem SetsA.wide {S S' : Nat → Prop} {w : World} {l : List IC} (h : SetsA S w l) (k : ∀ b, S b → S' b) : SetsA S' w l := fun x hx => (h x hx).wide k
theorem SetsA.app {S : Nat → Prop} {w : World} {l m : List IC} (h : SetsA S w l) (k : SetsA S w m) : SetsA S w (l ++ m) := fun x hx => (List.mem_append.1 hx).elim (h x) (k x)

theorem info118 : (Try.prog.info? 118).map (fun i => (i.zero, i.size, i.bytes)) = some (some (.agg #[.int .i64 0, .int .i64 0, .int .i64 0, .slice none 0 0]), 4, 48) := by kernel_rfl
theorem elem50 : ElemT 50 118 4 48 := ⟨Try.underlying50, ⟨_, info118, rfl⟩, by omega⟩

/-! ### A row that is new since w0 -/
structure IRowP (w0 w : World) (v : Value) (l : List IC) (P S : Nat → Prop) : Prop where
  own : OwnC P w v 4 l.length (cellsI l)
  sets : SetsA S w l
  p : ∀ b, P b → w0.heap.size ≤ b ∧ b < w.heap.size ∧ ¬ S b
  s : ∀ b, S b → w0.heap.size ≤ b ∧ b < w.heap.size
  bel : Below w0.heap.size w0 w
  ne : v = .slice none 0 0 ∨ 0 < l.length
def IRow (w0 w : World) (v : Value) (l : List IC) : Prop := ∃ P S, IRowP w0 w v l P S

theorem ownC_wide {Q Q' : Nat → Prop} {w : World} {v : Value} {sz n : Nat} {cs : List Value} (h : OwnC Q w v sz n cs) (k : ∀ b, Q b → Q' b) : OwnC Q' w v sz n cs := by
  rcases h with h | ⟨g, cap, e, hq, h3⟩
  · exact .inl h
  · exact .inr ⟨g, cap, e, k g hq, h3⟩
theorem ownC_late {Q : Nat → Prop} {w w' : World} {v : Value} {sz n : Nat} {cs : List Value} (h : OwnC Q w v sz n cs) (hq : ∀ b, Q b → b < w.heap.size) (k : Below w.heap.size w w') : OwnC Q w' v sz n cs :=
  h.on (fun b hb => k.block b (hq b hb))

theorem IRowP.later {w0 w w' : World} {v : Value} {l : List IC} {P S : Nat → Prop} (h : IRowP w0 w v l P S) (k : Below w.heap.size w w') : IRowP w0 w' v l P S :=
  ⟨ownC_late h.own (fun b hb => (h.p b hb).2.1) k, h.sets.later k, fun b hb => ⟨(h.p b hb).1, Nat.lt_of_lt_of_le (h.p b hb).2.1 k.size, (h.p b hb).2.2⟩, fun b hb => ⟨(h.s b hb).1, Nat.lt_of_lt_of_le (h.s b hb).2 k.size⟩, h.bel.trans (k.mono h.bel.size), h.ne⟩
theorem IRow.later {w0 w w' : World} {v : Value} {l : List IC} (h : IRow w0 w v l) (k : Below w.heap.size w w') : IRow w0 w' v l := let ⟨P, S, h⟩ := h; ⟨P, S, h.later k⟩
theorem IRow.bel {w0 w : World} {v : Value} {l : List IC} (h : IRow w0 w v l) : Below w0.heap.size w0 w := let ⟨_, _, h⟩ := h; h.bel
theorem IRow.shape {w0 w : World} {v : Value} {l : List IC} (h : IRow w0 w v l) : ∃ a c, v = .slice a l.length c := by
  obtain ⟨P, S, h⟩ := h
  rcases h.own with ⟨rfl, e, _⟩ | ⟨g, cap, rfl, _⟩
  · exact ⟨none, 0, by rw [e]⟩
  · exact ⟨_, _, rfl⟩
theorem IRow.nil {w0 w : World} (h : Below w0.heap.size w0 w) : IRow w0 w (.slice none 0 0) [] :=
  ⟨fun _ => False, fun _ => False, .inl ⟨rfl, rfl, rfl⟩, fun x hx => absurd hx (List.not_mem_nil), fun b q => q.elim, fun b q => q.elim, h, .inl rfl⟩
/-- An older beginning. -/
theorem IRow.since {w0 w1 w : World} {v : Value} {l : List IC} (h : IRow w1 w v l) (k : Below w0.heap.size w0 w1) : IRow w0 w v l := by
  obtain ⟨P, S, h⟩ := h
  have := k.size
  exact ⟨P, S, h.own, h.sets, fun b hb => ⟨by have := (h.p b hb).1; omega, (h.p b hb).2⟩, fun b hb => ⟨by have := (h.s b hb).1; omega, (h.s b hb).2⟩, bel_tr k h.bel, h.ne⟩

theorem src_row {w0 w : World} {v : Value} {l : List IC} {P S : Nat → Prop} (h : IRowP w0 w v l P S) : Src Try.prog 4 50 v l.length (cellsI l) w := by
  rcases h.own with ⟨rfl, e, e2⟩ | ⟨g, cap, rfl, hq, hl, hc, hcell, hw⟩
  · have : l = [] := List.eq_nil_of_length_eq_zero e
    subst this
    exact Src.ofNil w Try.underlying50 0
  · refine Src.ofSlice (P := Try.prog) w Try.underlying50 ⟨g, 0, none⟩ l.length cap _ (by rw [cellsI_len]) (fun j u hu => ?_) (cellsI_one l)
    have hj : j < (cellsI l).length := (List.getElem?_eq_some_iff.1 hu).1
    have e' : (⟨g, 0, none⟩ : Addr).add j = ⟨g, j, none⟩ := by
      by_cases h0 : j = 0
      · subst h0; simp [Addr.add]
      · simp [Addr.add, h0]
    rw [e', hcell j hj]
    exact hu

/-- Behind an append. -/
theorem row_app {w0 w1 w w' : World} {v y v' : Value} {L L2 : List IC} {P S P2 S2 : Nat → Prop} (h : IRowP w0 w1 v L P S) (h2 : IRowP w1 w y L2 P2 S2) (ho : OwnC (fun b => P b ∨ w.heap.size ≤ b) w' v' 4 (L.length + L2.length) (cellsI L ++ cellsI L2)) (hg : Grew (fun b => P b) w w') (hp : 0 < L.length + L2.length) : IRow w0 w' v' (L ++ L2) := by
  have s01 := h.bel.size
  have s12 := h2.bel.size
  have sg := hg.size
  have hSw : Stay (fun b => S b ∨ S2 b) w w' := fun b hb => hg.block b (by
    rcases hb with q | q
    · have := (h.s b q).2; omega
    · exact (h2.s b q).2) (fun q => by
    rcases hb with r | r
    · exact (h.p b q).2.2 r
    · have h3 := (h.p b q).2.1
      have h4 := (h2.s b r).1
      omega)
  refine ⟨fun b => P b ∨ (w.heap.size ≤ b ∧ b < w'.heap.size), fun b => S b ∨ S2 b, ?_, ?_, ?_, ?_, ?_, .inr (by rw [List.length_append]; exact hp)⟩
  · rw [List.length_append, cellsI_app]
    rcases ho with q | ⟨g, cap, e, hq, h3, h4, h5, h6⟩
    · exact .inl q
    · refine .inr ⟨g, cap, e, ?_, h3, h4, h5, h6⟩
      rcases hq with q | q
      · exact .inl q
      · obtain ⟨u, hu⟩ := Option.isSome_iff_exists.1 (h6 0 (by omega)).1
        exact .inr ⟨q, lt_of_cell hu⟩
  · exact ((((h.sets.wide (fun b q => Or.inl q)).later h2.bel).app (h2.sets.wide (fun b q => Or.inr q)))).on hSw
  · rintro b (q | ⟨q1, q2⟩)
    · have h3 := h.p b q
      refine ⟨h3.1, by omega, fun r => ?_⟩
      rcases r with r | r
      · exact h3.2.2 r
      · have := (h2.s b r).1; omega
    · refine ⟨by omega, q2, fun r => ?_⟩
      rcases r with r | r
      · have := (h.s b r).2; omega
      · have := (h2.s b r).2; omega
  · rintro b (q | q)
    · have := h.s b q; exact ⟨this.1, by omega⟩
    · have := h2.s b q; exact ⟨by omega, by omega⟩
  · have hb := bel_tr h.bel h2.bel
    exact ⟨hg.os.trans hb.os, hg.tape.trans hb.tape, hg.output.trans hb.output, Nat.le_trans hb.size hg.size, fun b hbb => (hg.block b (by omega) (fun q => by have := (h.p b q).1; omega)).trans (hb.block b hbb)⟩

theorem appN_run {w : World} {x : Value} {sz bytes : Nat} {news : List Value} {t tx e : TypeId} (ty : TypeId) (hE : ElemT t e sz bytes) (hs : Src Try.prog sz tx x 0 news w) :
    (Builtin.append_ #[t, tx] ty #[.slice none 0 0, x]).run Try.prog w = .ok (.slice none 0 0) w := by
  obtain ⟨z, hi, hzc⟩ := hE.info
  obtain ⟨i, hi', hzz⟩ := Option.map_eq_some_iff.1 hi
  simp only [Prod.mk.injEq] at hzz
  obtain ⟨hz0, hz1, hz2⟩ := hzz
  have hc := hs.cells
  rw [← hz1] at hc
  rcases hs.kind with ⟨e', hk⟩ | hk <;> simp [Builtin.append_, run_underlying hE.und, run_underlying hk, sizeOf, typeInfo, hi', hs.len, hc]

theorem row_run {w0 w1 w : World} {v y : Value} {L L2 : List IC} (ty : TypeId) (h : IRow w0 w1 v L) (h2 : IRow w1 w y L2) (hlen : L.length + L2.length ≤ 16777216) :
    ∃ v' w', (Builtin.append_ #[50, 50] ty #[v, y]).run Try.prog w = .ok v' w' ∧ IRow w0 w' v' (L ++ L2) := by
  obtain ⟨P, S, h⟩ := h
  obtain ⟨P2, S2, h2⟩ := h2
  by_cases hz : L.length + L2.length = 0
  · have e1 : L = [] := List.eq_nil_of_length_eq_zero (by omega)
    have e2 : L2 = [] := List.eq_nil_of_length_eq_zero (by omega)
    subst e1 e2
    have ev : v = .slice none 0 0 := h.ne.elim id (fun q => absurd q (by simp))
    subst ev
    exact ⟨_, _, appN_run ty elem50 (src_row h2), IRow.nil (bel_tr h.bel h2.bel)⟩
  · obtain ⟨v', w', hr, k1, k2, k3⟩ := appC_run' ty elem50 (ownC_late h.own (fun b hb => (h.p b hb).2.1) h2.bel) (src_row h2) hlen (fun e => by
      by_cases q : 0 < L2.length
      · exact q
      · rcases h.own with ⟨_, e3, _⟩ | ⟨g, cap, e4, _⟩
        · omega
        · rw [e4] at e; cases e)
    exact ⟨v', w', hr, row_app h h2 k1 k2 (by omega)⟩

theorem rowA {ops : Array Oper} {rest : List Oper} {o : Oper} {a : Act} {P' : Exit → Act → World → Prop} {w : World} (hgd : o.guard = none) (s x : Operand) (ho : o.op = .call { callee := .builtin .append, args := #[s, x], argTypes := #[50, 50] })
    {w0 w1 : World} {v y : Value} {L L2 : List IC} (hs : a.eval s = v) (hx : a.eval x = y) (h : IRow w0 w1 v L) (h2 : IRow w1 w y L2) (hlen : L.length + L2.length ≤ 16777216)
    (k : ∀ w' L' n' a' c', Hid (L' = L ++ L2) → Hid (n' = L'.length) → Hid (IRow w0 w' (.slice a' n' c') L') → wpList Try.prog ops P' rest (a.put o.dst (.slice a' n' c')) w') : wpList Try.prog ops P' (o :: rest) a w := by
  refine wpList_plain hgd fun K hK => ?_
  obtain ⟨v', w', hr, hR⟩ := row_run o.type h h2 hlen
  obtain ⟨a', c', rfl⟩ := hR.shape
  unfold Oper.wp execOp
  simp only [ho, resolve, invoke, builtin, Sem.run_bind, Sem.run_pure, Result.andThen_ok, List.map_toArray, List.map_cons, List.map_nil, hs, hx, hr]
  exact hK _ _ (k w' (L ++ L2) _ a' c' rfl rfl hR)
theorem rowS {ops : Array Oper} {o : Oper} {a : Act} {w : World} {K : Act → World → Prop} {P' : Exit → Act → World → Prop} {E : Prop} (hgd : o.guard = none) (s x : Operand) (ho : o.op = .call { callee := .builtin .append, args := #[s, x], argTypes := #[50, 50] })
    {w0 w1 : World} {v y : Value} {L L2 : List IC} (hs : a.eval s = v) (hx : a.eval x = y) (h : IRow w0 w1 v L) (h2 : IRow w1 w y L2) (hlen : L.length + L2.length ≤ 16777216)
    (k : ∀ w' L' n' a' c', Hid (L' = L ++ L2) → Hid (n' = L'.length) → Hid (IRow w0 w' (.slice a' n' c') L') → K (a.put o.dst (.slice a' n' c')) w') : if Region.wanted o (yielded ops a.tmps) = true then Oper.wp Try.prog o a w K P' else E := by
  have hw : Region.wanted o (yielded ops a.tmps) = true := by simp [Region.wanted, hgd]
  rw [if_pos hw]
  obtain ⟨v', w', hr, hR⟩ := row_run o.type h h2 hlen
  obtain ⟨a', c', rfl⟩ := hR.shape
  unfold Oper.wp execOp
  simp only [ho, resolve, invoke, builtin, Sem.run_bind, Sem.run_pure, Result.andThen_ok, List.map_toArray, List.map_cons, List.map_nil, hs, hx, hr]
  exact k w' (L ++ L2) _ a' c' rfl rfl hR

/-- A row of one instruction, built. -/
theorem row_one {w0 w : World} {x : IC} {S : Nat → Prop} (hb : Below w0.heap.size w0 w) (hs : Ints S .i64 w x.a x.d.sl x.d.set) (hS : ∀ b, S b → w0.heap.size ≤ b ∧ b < w.heap.size) :
    IRow w0 (w.alloc (.cells #[.int .i64 x.d.kind, .int .i64 x.d.arg, .int .i64 x.d.to, .slice x.a x.d.sl x.c] 118)) (.slice (some ⟨w.heap.size, 0, none⟩) 1 1) [x] := by
  have hz : (w.alloc (.cells #[.int .i64 x.d.kind, .int .i64 x.d.arg, .int .i64 x.d.to, .slice x.a x.d.sl x.c] 118)).heap.size = w.heap.size + 1 := by simp
  have hb' := hb.size
  have hc : ∀ j, j < 4 → (w.alloc (.cells #[.int .i64 x.d.kind, .int .i64 x.d.arg, .int .i64 x.d.to, .slice x.a x.d.sl x.c] 118)).cell? ⟨w.heap.size, j, none⟩ = (icv x)[j]? := fun j hj => by
    match j, hj with
    | 0, _ => exact cN w.heap.size rfl rfl
    | 1, _ => exact cN w.heap.size rfl rfl
    | 2, _ => exact cN w.heap.size rfl rfl
    | 3, _ => exact cN w.heap.size rfl rfl
    | j + 4, hj => omega
  refine ⟨fun b => b = w.heap.size, S, ?_, ?_, ?_, ?_, ?_, .inr (by simp)⟩
  · refine .inr ⟨w.heap.size, 1, rfl, rfl, rfl, Nat.le_refl _, fun j hj => ?_, fun j hj => ⟨?_, ?_⟩⟩
    · have hj' : j < 4 := by simpa [cellsI, icv] using hj
      rw [hc j hj', cellsI, cellsI, List.append_nil]
    · rw [hc j (by omega)]
      match j, hj with
      | 0, _ => rfl
      | 1, _ => rfl
      | 2, _ => rfl
      | 3, _ => rfl
      | j + 4, hj => omega
    · exact soft1 w _ 118 w.heap.size j (Nat.le_refl _) (by rw [hz]; omega)
  · intro y hy
    simp at hy
    subst hy
    exact hs.later (bel1 w _)
  · rintro b rfl
    exact ⟨hb', by rw [hz]; omega, fun q => by have := (hS _ q).2; omega⟩
  · intro b hb2
    have := hS b hb2
    exact ⟨this.1, by rw [hz]; omega⟩
  · exact bel_tr hb (bel1 w _)
theorem row_ic {w0 w : World} (k a t : Int) (hb : Below w0.heap.size w0 w) : IRow w0 (w.alloc (.cells #[.int .i64 k, .int .i64 a, .int .i64 t, .slice none 0 0] 118)) (.slice (some ⟨w.heap.size, 0, none⟩) 1 1) [ic k a t] :=
  row_one (x := ic k a t) (S := fun _ => False) hb (.inl rfl) (fun b q => q.elim)

end Go.Proofs.Ytjndcajblpgjmaa
