/-
  Walks: the specification's instructions of an expression.
-/
import Derived.Test.YtjndcajblpgjmaaSComp
import Derived.Test.YtjndcajblpgjmaaCClone
namespace Go.Proofs.Ytjndcajblpgjmaa
open Go.RowKit
open M (OpD NodeD Gr InsD EX ins emit wsum wt)
set_option linter.unusedVariables false
set_option linter.unusedSimpArgs false

section
variable {α : Type} [Inhabited α] (f : OpD → α → α → α) (B : Nat → OpD)
theorem bin_splitG (q lo : Nat) (x : α) (hF : M.Fed B (q + 1)) (h2 : M.ar (B q).kind = 2) (e : M.stk f B (q + 1) = (lo, x) :: M.stk f B lo) :
    ∃ s y z, lo < s ∧ s < q ∧ M.stk f B q = (s, y) :: M.stk f B s ∧ M.stk f B s = (lo, z) :: M.stk f B lo ∧ x = f (B q) z y ∧ M.dep B s + 1 = M.dep B q ∧ ∀ j, s < j → j ≤ q → M.dep B q ≤ M.dep B j := by
  have hq : M.Fed B q := hF.less (by omega)
  have hl := M.stk_len f B q hq
  have hi := hF q (by omega)
  rw [M.stk] at e
  match hs : M.stk f B q with
  | [] => rw [hs] at hl; simp at hl; omega
  | [(s, y)] => rw [hs] at hl; simp at hl; omega
  | (s, y) :: (s1, z) :: r =>
    rw [hs] at e hl
    simp only [M.stp, h2, if_true, List.cons.injEq, Prod.mk.injEq] at e
    obtain ⟨⟨rfl, rfl⟩, er⟩ := e
    obtain ⟨a1, a2, a3⟩ := M.stk_cons f B q hq s y _ hs
    obtain ⟨b1, b2, b3⟩ := M.stk_cons f B s (hq.less (by omega)) s1 z r a2.symm
    have l2 := M.stk_len f B s (hq.less (by omega))
    rw [← a2] at l2
    simp at hl l2
    exact ⟨s, y, z, b1, a1, by rw [← a2], by rw [← a2, b2], rfl, by omega, a3⟩
theorem un_splitG (q lo : Nat) (x : α) (hF : M.Fed B (q + 1)) (h1 : M.ar (B q).kind = 1) (e : M.stk f B (q + 1) = (lo, x) :: M.stk f B lo) :
    ∃ z, lo < q ∧ M.stk f B q = (lo, z) :: M.stk f B lo ∧ x = f (B q) z default := by
  have hq : M.Fed B q := hF.less (by omega)
  have hl := M.stk_len f B q hq
  have hi := hF q (by omega)
  rw [M.stk] at e
  match hs : M.stk f B q with
  | [] => rw [hs] at hl; simp at hl; omega
  | (s, z) :: r =>
    rw [hs] at e hl
    simp [M.stp, h1] at e
    obtain ⟨⟨rfl, rfl⟩, er⟩ := e
    obtain ⟨a1, a2, a3⟩ := M.stk_cons f B q hq s z _ hs
    exact ⟨z, a1, by rw [← er], rfl⟩
theorem leaf_splitG (q lo : Nat) (x : α) (h0 : M.ar (B q).kind = 0) (e : M.stk f B (q + 1) = (lo, x) :: M.stk f B lo) : x = f (B q) default default := by
  rw [M.stk] at e
  simp [M.stp, h0] at e
  exact e.1.2.symm
end

/-- Instructions are answered, in new memory. -/
def GivesR (l : List InsD) (w : World) (e : Ending) (w' : World) : Prop := ∃ a n c L, e = .returned (.slice a n c) ∧ Hid (n = L.length) ∧ Hid (L.map IC.d = l) ∧ Hid (IRow w w' (.slice a n c) L)
theorem givesR {l : List InsD} {w w' : World} {a : Option Addr} {n c : Nat} {L : List IC} (h : IRow w w' (.slice a n c) L) (hl : L.map IC.d = l) : GivesR l w (.returned (.slice a n c)) w' := by
  obtain ⟨a', c', e⟩ := h.shape
  cases e
  exact ⟨a, _, c, L, rfl, rfl, hl, h⟩
theorem len_of {L : List IC} {l : List InsD} {n : Nat} (h1 : n = L.length) (h2 : L.map IC.d = l) : L.length = l.length ∧ n = l.length := by
  rw [← h2, List.length_map]
  exact ⟨rfl, h1⟩

theorem stepC2 {P : Program} {ops : Array Oper} {o : Oper} {a : Act} {w : World} {K : Act → World → Prop} {P' : Exit → Act → World → Prop} {E : Prop} {f : FuncId} (hf : ∀ args w, (callFunc f args).run P w = .ok (.enter f args) w) (hgd : o.guard = none) (x1 x2 : Operand) (t1 t2 : TypeId)
    (ho : o.op = .call { callee := .value (.func f), args := #[x1, x2], argTypes := #[t1, t2] }) {y1 y2 : Value} (hx1 : a.eval x1 = y1) (hx2 : a.eval x2 = y2) (h : Calls P f #[y1, y2] w (fun e w' => ∃ u, e = .returned u ∧ K (a.put o.dst u) w')) : if Region.wanted o (yielded ops a.tmps) = true then Oper.wp P o a w K P' else E := by
  have hw : Region.wanted o (yielded ops a.tmps) = true := by simp [Region.wanted, hgd]
  rw [if_pos hw]
  have hrun : (execOp a.eval o).run P w = .ok (.enter f #[y1, y2]) w := by
    have e : a.eval (.func f) = .func (.func f) #[] #[] := rfl
    unfold execOp
    simp only [ho, resolve, invoke, Deferred.ofValue, Sem.run_bind, Sem.run_pure, Result.andThen_ok, List.map_toArray, List.map_cons, List.map_nil, hx1, hx2, e]
    exact hf #[y1, y2] w
  unfold Oper.wp
  rw [hrun]
  refine Calls.mono h ?_
  rintro e w' ⟨u, rfl, hk⟩
  exact hk

theorem canonLen {n : Nat} {S : Nat → Int} (h : M.Canon n S) : n ≤ 256 := by
  obtain ⟨h1, h2⟩ := h
  obtain ⟨k, rfl⟩ : ∃ k, n = 2 * k := ⟨n / 2, by omega⟩
  have hp := (M.pairs_canon S k).2 h2
  have key : ∀ j, j < k → 2 * (j : Int) ≤ S (2 * j) := by
    intro j
    induction j with
    | zero => intro hj; have := (hp 0 hj).1; simp [M.least] at this; simpa using this
    | succ j ih =>
      intro hj
      have a := ih (by omega)
      have b := (hp j (by omega)).2.1
      have c := (hp (j + 1) hj).1
      unfold M.least at c
      rw [if_neg (by omega), show 2 * (j + 1) - 1 = 2 * j + 1 by omega] at c
      push_cast
      omega
  by_cases hk : k = 0
  · omega
  · have a := key (k - 1) (by omega)
    have b := hp (k - 1) (by omega)
    have := b.2.1
    have := b.2.2
    omega
theorem l4size_seg (Q : Nat → Prop) (a : Option Addr) (n c : Nat) (T : Nat → OpD) (w : World) (hB : OpsA Q w a n T) (hk : ∀ i, i < n → 0 ≤ (T i).kind ∧ (T i).kind ≤ 7) (hn : n ≤ 2000) {k : Nat} (h : wsum T n = k) :
    Calls Try.prog 180 #[.slice a n c] w fun e w' => e = .returned (.int .i64 (k : Int)) ∧ w = w' := by
  subst h
  exact l4size_any Q a n c T w hB hk hn
theorem enter136 (args : Array Value) (w : World) : (callFunc 136 args).run Try.prog w = .ok (.enter 136 args) w := by
  simp [callFunc, Try.func136, Try.f136, go_sem]
theorem enter179 (args : Array Value) (w : World) : (callFunc 179 args).run Try.prog w = .ok (.enter 179 args) w := by
  simp [callFunc, Try.func179, Try.f179, go_sem]
theorem enter180 (args : Array Value) (w : World) : (callFunc 180 args).run Try.prog w = .ok (.enter 180 args) w := by
  simp [callFunc, Try.func180, Try.f180, go_sem]
theorem enter145 (args : Array Value) (w : World) : (callFunc 145 args).run Try.prog w = .ok (.enter 145 args) w := by
  simp [callFunc, Try.func145, Try.f145, go_sem]
theorem stepC1 {P : Program} {ops : Array Oper} {o : Oper} {a : Act} {w : World} {K : Act → World → Prop} {P' : Exit → Act → World → Prop} {E : Prop} {f : FuncId} (hf : ∀ args w, (callFunc f args).run P w = .ok (.enter f args) w) (hgd : o.guard = none) (x1 : Operand) (t1 : TypeId)
    (ho : o.op = .call { callee := .value (.func f), args := #[x1], argTypes := #[t1] }) {y1 : Value} (hx1 : a.eval x1 = y1) (h : Calls P f #[y1] w (fun e w' => ∃ u, e = .returned u ∧ K (a.put o.dst u) w')) : if Region.wanted o (yielded ops a.tmps) = true then Oper.wp P o a w K P' else E := by
  have hw : Region.wanted o (yielded ops a.tmps) = true := by simp [Region.wanted, hgd]
  rw [if_pos hw]
  have hrun : (execOp a.eval o).run P w = .ok (.enter f #[y1]) w := by
    have e : a.eval (.func f) = .func (.func f) #[] #[] := rfl
    unfold execOp
    simp only [ho, resolve, invoke, Deferred.ofValue, Sem.run_bind, Sem.run_pure, Result.andThen_ok, List.map_toArray, List.map_cons, List.map_nil, hx1, e]
    exact hf #[y1] w
  unfold Oper.wp
  rw [hrun]
  refine Calls.mono h ?_
  rintro e w' ⟨u, rfl, hk⟩
  exact hk
theorem stepC3 {P : Program} {ops : Array Oper} {o : Oper} {a : Act} {w : World} {K : Act → World → Prop} {P' : Exit → Act → World → Prop} {E : Prop} {f : FuncId} (hf : ∀ args w, (callFunc f args).run P w = .ok (.enter f args) w) (hgd : o.guard = none) (x1 x2 x3 : Operand) (t1 t2 t3 : TypeId)
    (ho : o.op = .call { callee := .value (.func f), args := #[x1, x2, x3], argTypes := #[t1, t2, t3] }) {y1 y2 y3 : Value} (hx1 : a.eval x1 = y1) (hx2 : a.eval x2 = y2) (hx3 : a.eval x3 = y3) (h : Calls P f #[y1, y2, y3] w (fun e w' => ∃ u, e = .returned u ∧ K (a.put o.dst u) w')) : if Region.wanted o (yielded ops a.tmps) = true then Oper.wp P o a w K P' else E := by
  have hw : Region.wanted o (yielded ops a.tmps) = true := by simp [Region.wanted, hgd]
  rw [if_pos hw]
  have hrun : (execOp a.eval o).run P w = .ok (.enter f #[y1, y2, y3]) w := by
    have e : a.eval (.func f) = .func (.func f) #[] #[] := rfl
    unfold execOp
    simp only [ho, resolve, invoke, Deferred.ofValue, Sem.run_bind, Sem.run_pure, Result.andThen_ok, List.map_toArray, List.map_cons, List.map_nil, hx1, hx2, hx3, e]
    exact hf #[y1, y2, y3] w
  unfold Oper.wp
  rw [hrun]
  refine Calls.mono h ?_
  rintro e w' ⟨u, rfl, hk⟩
  exact hk
theorem target_at (ra la sa : Option Addr) (nr rc nb lc sc : Nat) (o : OpD) (w : World) (hn : M.Names o) {k a : Int} (hk : o.kind = k) (ha : o.arg = a) (h0 : 0 ≤ o.arg) (h1 : o.arg ≤ 1048576) (h2 : nr ≤ 1048576) :
    Calls Try.prog 136 #[.agg #[.slice ra nr rc, .slice la nb lc], .agg #[.int .i64 k, .slice sa o.sl sc, .int .i64 a]] w fun e w' => e = .returned (.int .i64 (M.tg nr o : Nat)) ∧ Below w.heap.size w w' := by
  subst hk ha
  exact l3target_any ra la sa nr rc nb lc sc o w hn h0 h1 h2


end Go.Proofs.Ytjndcajblpgjmaa
