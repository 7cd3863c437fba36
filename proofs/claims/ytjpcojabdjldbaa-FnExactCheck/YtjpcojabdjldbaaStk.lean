/-
  The stack of openings in memory; a call of a closure as one step of a region that draws its order.
-/
import Derived.Test.YtjpcojabdjldbaaAppC
import Derived.Test.YtjpcojabdjldbaaOv
import Derived.RangeFuncCalls
namespace Go.Proofs.Ytjpcojabdjldbaa
open Go.RowKit
open M (OpD NodeD Gr)
set_option linter.unusedVariables false
set_option linter.unusedSimpArgs false

theorem stepClo {P : Program} {ops : Array Oper} {o : Oper} {a : Act} {w : World} {K : Act → World → Prop} {P' : Exit → Act → World → Prop} {E : Prop} {f : FuncId} (hf : ∀ args w, (callFunc f args).run P w = .ok (.enter f args) w) (hgd : o.guard = none) (c x1 x2 : Operand) (t1 t2 : TypeId)
    (ho : o.op = .call { callee := .value c, args := #[x1, x2], argTypes := #[t1, t2] }) {y1 y2 p1 p2 : Value} (hc : a.eval c = .func (.func f) #[] #[p1, p2]) (hx1 : a.eval x1 = y1) (hx2 : a.eval x2 = y2) (h : Calls P f #[y1, y2, p1, p2] w (fun e w' => ∃ u, e = .returned u ∧ K (a.put o.dst u) w')) : if Region.wanted o (yielded ops a.tmps) = true then Oper.wp P o a w K P' else E := by
  have hw : Region.wanted o (yielded ops a.tmps) = true := by simp [Region.wanted, hgd]
  rw [if_pos hw]
  have hrun : (execOp a.eval o).run P w = .ok (.enter f #[y1, y2, p1, p2]) w := by
    unfold execOp
    simp only [ho, resolve, invoke, Deferred.ofValue, Sem.run_bind, Sem.run_pure, Result.andThen_ok, List.map_toArray, List.map_cons, List.map_nil, hx1, hx2, hc]
    exact hf #[y1, y2, p1, p2] w
  unfold Oper.wp
  rw [hrun]
  refine Calls.mono h ?_
  rintro e w' ⟨u, rfl, hk⟩
  exact hk

/-- The cells of a stack, from the bottom: the zero opening, then the values. -/
def stkC : List (Nat × Opn) → List Value
  | [] => opl oz
  | (_, v) :: r => stkC r ++ opl v
theorem opl_len (x : Opn) : (opl x).length = 6 := rfl
theorem stkC_len (l : List (Nat × Opn)) : (stkC l).length = (l.length + 1) * 6 := by
  induction l with
  | nil => rfl
  | cons p r ih => rw [stkC, List.length_append, ih, opl_len]; simp only [List.length_cons]; omega

theorem opn_at {w : World} {g : Nat} {cs pre post : List Value} {x : Opn} (h : ∀ j, j < cs.length → w.cell? ⟨g, j, none⟩ = cs[j]?) (e : cs = pre ++ (opl x ++ post)) : OpnC w g pre.length x := by
  have key : ∀ j v, (opl x)[j]? = some v → w.cell? ⟨g, pre.length + j, none⟩ = some v := fun j v hv => by
    have hj : j < 6 := by
      have := (List.getElem?_eq_some_iff.1 hv).1
      simpa [opl_len] using this
    rw [h _ (by rw [e]; simp [opl_len]; omega), e, List.getElem?_append_right (by omega), show pre.length + j - pre.length = j by omega, List.getElem?_append_left (by rw [opl_len]; exact hj), hv]
  exact ⟨key 0 _ rfl, key 1 _ rfl, key 2 _ rfl, key 3 _ rfl, key 4 _ rfl, key 5 _ rfl⟩

/-- The stack's row is cut to its first m elements. -/
theorem own_cut {Q : Nat → Prop} {w : World} {g cap n m : Nat} {cs pre post : List Value} (h : OwnC Q w (.slice (some ⟨g, 0, none⟩) n cap) 6 n cs) (e : cs = pre ++ post) (hm : pre.length = m * 6) (hle : m ≤ n) (h0 : 0 < n) : OwnC Q w (.slice (some ⟨g, 0, none⟩) m cap) 6 m pre := by
  rcases h with ⟨q, _⟩ | ⟨g', cap', q, h2, h3, h4, h5, h6⟩
  · cases q
  · cases q
    refine .inr ⟨g, cap, rfl, h2, hm, by omega, fun j hj => ?_, h6⟩
    rw [h5 j (by rw [e, List.length_append]; omega), e, List.getElem?_append_left hj]

/-- The value of an element, by the stack. -/
def valOf (nr : Nat) (mk : NS) (o : OpD) (l : List (Nat × Opn)) : Opn :=
  if M.ar o.kind = 2 then match l with | (_, y) :: (_, x) :: _ => valO nr mk o x y | _ => default
  else if M.ar o.kind = 1 then match l with | (_, x) :: _ => valO nr mk o x default | _ => default
  else valO nr mk o default default
theorem stp_eq (nr : Nat) (mk : NS) (o : OpD) (i : Nat) (l : List (Nat × Opn)) (h : M.ar o.kind ≤ (l.length : Int)) : ∃ s, M.stp (valO nr mk) o i l = (s, valOf nr mk o l) :: l.drop (M.ar o.kind).toNat := by
  unfold M.stp valOf
  rcases M.ar_cases o.kind with h0 | h0 | h0
  · simp [h0]
  · rw [h0] at h
    match l with
    | [] => simp at h
    | (s, x) :: r => exact ⟨s, by simp [h0]⟩
  · rw [h0] at h
    match l with
    | [] => simp at h
    | [(s, x)] => simp at h
    | (s2, y) :: (s1, x) :: r => exact ⟨s1, by simp [h0]⟩

theorem valO_ok (nr : Nat) (mk : NS) (o : OpD) (x y : Opn) (hx : x.beg.OK) (hy : y.beg.OK) : (valO nr mk o x y).beg.OK := by
  unfold valO
  split
  · exact NS.OK.zero
  · split
    · exact NS.OK.zero.put _
    · split
      · split
        · exact hx.join hy
        · exact hx
      · split
        · exact hx.join hy
        · split
          · exact hx
          · split
            · exact hx
            · exact NS.OK.zero
theorem valOf_ok (nr : Nat) (mk : NS) (o : OpD) (l : List (Nat × Opn)) (h : ∀ p, p ∈ l → p.2.beg.OK) : (valOf nr mk o l).beg.OK := by
  have d : (default : Opn).beg.OK := NS.OK.zero
  unfold valOf
  split
  · match l with
    | [] => exact d
    | [_] => exact d
    | (s2, y) :: (s1, x) :: r => exact valO_ok _ _ _ _ _ (h (s1, x) (by simp)) (h (s2, y) (by simp))
  · split
    · match l with
      | [] => exact d
      | (s1, x) :: r => exact valO_ok _ _ _ _ _ (h (s1, x) (by simp)) d
    · exact valO_ok _ _ _ _ _ d d

end Go.Proofs.Ytjpcojabdjldbaa
