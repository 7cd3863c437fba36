/-
  Plain mathematics: expressions as trees of nodes, the instructions of a tree and of a grammar.
-/
import Derived.Test.YtjndcajblpgjmaaFold
namespace Go.Proofs.Ytjndcajblpgjmaa.M
set_option linter.unusedVariables false

structure InsD where
  kind : Int
  arg : Int
  to : Int
  sl : Nat
  set : Nat → Int
/-- An instruction without a set. -/
def ins (k a t : Int) : InsD := ⟨k, a, t, 0, fun _ => 0⟩

inductive EX where
  | empty
  | set (n : Nat) (S : Nat → Int)
  | ref (n : Nat)
  | thr (l n : Nat)
  | seq (x y : EX)
  | alt (x y : EX)
  | star (x : EX)
  | not (x : EX)
instance : Inhabited EX := ⟨.empty⟩

def EX.len : EX → Nat
  | .empty => 0
  | .set _ _ => 1
  | .ref _ => 1
  | .thr _ _ => 1
  | .seq x y => x.len + y.len
  | .alt x y => x.len + y.len + 2
  | .star x => x.len + 2
  | .not x => x.len + 2

/-- The instructions of an expression at the index p, where r tells the To of a node. -/
def emit (r : Nat → Int) : EX → Nat → List InsD
  | .empty, _ => []
  | .set n S, _ => [⟨0, 0, 0, n, S⟩]
  | .ref n, _ => [ins 6 0 (r n)]
  | .thr l n, _ => [ins 8 l (r n)]
  | .seq x y, p => emit r x p ++ emit r y (p + x.len)
  | .alt x y, p => ins 1 0 ((p + x.len + 2 : Nat) : Int) :: (emit r x (p + 1) ++ ins 2 0 ((p + x.len + y.len + 2 : Nat) : Int) :: emit r y (p + x.len + 2))
  | .star x, p => ins 1 0 ((p + x.len + 2 : Nat) : Int) :: (emit r x (p + 1) ++ [ins 3 0 ((p + 1 : Nat) : Int)])
  | .not x, p => ins 4 0 ((p + x.len + 2 : Nat) : Int) :: (emit r x (p + 1) ++ [ins 5 0 0])

theorem emit_len (r : Nat → Int) (t : EX) : ∀ p, (emit r t p).length = t.len := by
  induction t with
  | empty => intro p; rfl
  | set n S => intro p; rfl
  | ref n => intro p; rfl
  | thr l n => intro p; rfl
  | seq x y ihx ihy => intro p; simp [emit, EX.len, ihx, ihy]
  | alt x y ihx ihy => intro p; simp [emit, EX.len, ihx, ihy]; omega
  | star x ih => intro p; simp [emit, EX.len, ih]
  | not x ih => intro p; simp [emit, EX.len, ih]

/-- A link: the To of calls and throws is turned. -/
def lk (f : Int → Int) (i : InsD) : InsD := if i.kind = 6 ∨ i.kind = 8 then { i with to := f i.to } else i
theorem emit_link (r : Nat → Int) (f : Int → Int) (t : EX) : ∀ p, (emit r t p).map (lk f) = emit (fun n => f (r n)) t p := by
  induction t with
  | empty => intro p; rfl
  | set n S => intro p; simp [emit, lk]
  | ref n => intro p; simp [emit, lk, ins]
  | thr l n => intro p; simp [emit, lk, ins]
  | seq x y ihx ihy => intro p; simp [emit, ihx, ihy]
  | alt x y ihx ihy => intro p; simp [emit, ihx, ihy]; simp [lk, ins]
  | star x ih => intro p; simp [emit, ih]; simp [lk, ins]
  | not x ih => intro p; simp [emit, ih]; simp [lk, ins]

/-- Every node that the tree names is below m. -/
def EX.Below (m : Nat) : EX → Prop
  | .ref n => n < m
  | .thr _ n => n < m
  | .seq x y => x.Below m ∧ y.Below m
  | .alt x y => x.Below m ∧ y.Below m
  | .star x => x.Below m
  | .not x => x.Below m
  | _ => True
theorem emit_congr (r r' : Nat → Int) (m : Nat) (h : ∀ n, n < m → r n = r' n) (t : EX) (ht : t.Below m) : ∀ p, emit r t p = emit r' t p := by
  induction t with
  | empty => intro p; rfl
  | set n S => intro p; rfl
  | ref n => intro p; simp [emit, h n ht]
  | thr l n => intro p; simp [emit, h n ht]
  | seq x y ihx ihy => intro p; simp [emit, ihx ht.1, ihy ht.2]
  | alt x y ihx ihy => intro p; simp [emit, ihx ht.1, ihy ht.2]
  | star x ih => intro p; simp [emit, ih ht]
  | not x ih => intro p; simp [emit, ih ht]

/-! ### The tree of a body -/
def nodeE (nr : Nat) (o : OpD) (x y : EX) : EX :=
  if o.kind = 1 then .set o.sl o.set else if o.kind = 2 then .ref o.arg.toNat else if o.kind = 3 then .thr o.arg.toNat (nr + o.arg.toNat)
  else if o.kind = 4 then .seq x y else if o.kind = 5 then .alt x y else if o.kind = 6 then .star x else if o.kind = 7 then .not x else .empty
def treeE (nr n : Nat) (B : Nat → OpD) : EX := top (stk (nodeE nr) B n)

/-- How many instructions an element makes. -/
def wt (k : Int) : Nat := if k = 1 ∨ k = 2 ∨ k = 3 then 1 else if k = 5 ∨ k = 6 ∨ k = 7 then 2 else 0
def wsum (B : Nat → OpD) : Nat → Nat
  | 0 => 0
  | n + 1 => wsum B n + wt (B n).kind
theorem wsum_bd (B : Nat → OpD) (n : Nat) : wsum B n ≤ 2 * n := by
  induction n with
  | zero => exact Nat.le_refl _
  | succ n ih =>
    have : wt (B n).kind ≤ 2 := by unfold wt; split <;> (try split) <;> omega
    rw [wsum]; omega
theorem wsum_mono (B : Nat → OpD) {m n : Nat} (h : m ≤ n) : wsum B m ≤ wsum B n := by
  induction n with
  | zero => have : m = 0 := by omega
            subst this; exact Nat.le_refl _
  | succ n ih =>
    by_cases e : m = n + 1
    · subst e; exact Nat.le_refl _
    · have := ih (by omega); rw [wsum]; omega
theorem wsum_shift (B : Nat → OpD) (lo n : Nat) : wsum (fun i => B (lo + i)) n + wsum B lo = wsum B (lo + n) := by
  induction n with
  | zero => simp [wsum]
  | succ n ih => rw [wsum, show lo + (n + 1) = lo + n + 1 by omega, wsum]; omega

def lens : List (Nat × EX) → Nat
  | [] => 0
  | (_, t) :: r => t.len + lens r
theorem node_len (nr : Nat) (o : OpD) (x y : EX) : (ar o.kind = 2 → (nodeE nr o x y).len = x.len + y.len + wt o.kind) ∧ (ar o.kind = 1 → (nodeE nr o x y).len = x.len + wt o.kind) ∧ (ar o.kind = 0 → (nodeE nr o x y).len = wt o.kind) := by
  unfold nodeE ar wt
  by_cases e1 : o.kind = 1
  · simp [e1, EX.len]
  · by_cases e2 : o.kind = 2
    · simp [e2, EX.len]
    · by_cases e3 : o.kind = 3
      · simp [e3, EX.len]
      · by_cases e4 : o.kind = 4
        · simp [e4, EX.len]
        · by_cases e5 : o.kind = 5
          · simp [e5, EX.len]
          · by_cases e6 : o.kind = 6
            · simp [e6, EX.len]
            · by_cases e7 : o.kind = 7
              · simp [e7, EX.len]
              · simp [e1, e2, e3, e4, e5, e6, e7, EX.len]
theorem stk_lens (nr : Nat) (B : Nat → OpD) (n : Nat) (h : Fed B n) : lens (stk (nodeE nr) B n) = wsum B n := by
  induction n with
  | zero => rfl
  | succ n ih =>
    have e := ih (h.less (by omega))
    have hl := stk_len (nodeE nr) B n (h.less (by omega))
    have hi := h n (by omega)
    rw [stk, wsum]
    generalize stk (nodeE nr) B n = l at *
    rcases ar_cases (B n).kind with h0 | h0 | h0
    · have := (node_len nr (B n) default default).2.2 h0
      simp [stp, h0, lens, this]
      omega
    · rw [h0] at hi
      match l, e, hl with
      | [], e, hl => simp at hl; omega
      | (a, x) :: r, e, hl =>
        have := (node_len nr (B n) x default).2.1 h0
        simp [stp, h0, lens, this] at *
        omega
    · rw [h0] at hi
      match l, e, hl with
      | [], e, hl => simp at hl; omega
      | [(a, x)], e, hl => simp at hl; omega
      | (a, y) :: (b, x) :: r, e, hl =>
        have := (node_len nr (B n) x y).1 h0
        simp [stp, h0, lens, this] at *
        omega
/-- The length of the topmost tree, by the elements that it is made of. -/
theorem top_len (nr : Nat) (B : Nat → OpD) (hi lo : Nat) (x : EX) (hF : Fed B hi) (e : stk (nodeE nr) B hi = (lo, x) :: stk (nodeE nr) B lo) (hlo : lo ≤ hi) : x.len + wsum B lo = wsum B hi := by
  have h1 := stk_lens nr B hi hF
  have h2 := stk_lens nr B lo (hF.less hlo)
  rw [e] at h1
  simp only [lens] at h1
  omega

theorem node_below {nr nb : Nat} {o : OpD} (ho : ElemOK nr nb o) {x y : EX} (hx : x.Below (nr + nb)) (hy : y.Below (nr + nb)) : (nodeE nr o x y).Below (nr + nb) := by
  obtain ⟨h1, h2, h3, h4, h5, h6⟩ := ho
  unfold nodeE
  by_cases e1 : o.kind = 1
  · rw [if_pos e1]; trivial
  · rw [if_neg e1]
    by_cases e2 : o.kind = 2
    · rw [if_pos e2]
      unfold most at h6
      rw [if_neg (by omega), if_pos e2] at h6
      show o.arg.toNat < nr + nb
      omega
    · rw [if_neg e2]
      by_cases e3 : o.kind = 3
      · rw [if_pos e3]
        unfold most at h6
        rw [if_pos e3] at h6
        show nr + o.arg.toNat < nr + nb
        omega
      · rw [if_neg e3]
        split
        · exact ⟨hx, hy⟩
        · split
          · exact ⟨hx, hy⟩
          · split
            · exact hx
            · split
              · exact hx
              · trivial
theorem stk_below {nr nb : Nat} (B : Nat → OpD) (n : Nat) (hB : ∀ i, i < n → ElemOK nr nb (B i)) : ∀ p, p ∈ stk (nodeE nr) B n → p.2.Below (nr + nb) := by
  induction n with
  | zero => intro p hp; simp [stk] at hp
  | succ n ih =>
    have ih' := ih (fun i hi => hB i (by omega))
    have ho := hB n (by omega)
    have hd : (default : EX).Below (nr + nb) := trivial
    rw [stk]
    generalize stk (nodeE nr) B n = l at *
    intro p hp
    unfold stp at hp
    split at hp
    · match l, ih', hp with
      | [], _, hp => simp at hp
      | [_], _, hp => simp at hp
      | (s2, y) :: (s1, x) :: r, ih', hp =>
        rcases List.mem_cons.1 hp with rfl | hp
        · exact node_below ho (ih' (s1, x) (by simp)) (ih' (s2, y) (by simp))
        · exact ih' p (by simp [hp])
    · split at hp
      · match l, ih', hp with
        | [], _, hp => simp at hp
        | (s1, x) :: r, ih', hp =>
          rcases List.mem_cons.1 hp with rfl | hp
          · exact node_below ho (ih' (s1, x) (by simp)) hd
          · exact ih' p (by simp [hp])
      · rcases List.mem_cons.1 hp with rfl | hp
        · exact node_below ho hd hd
        · exact ih' p hp
theorem tree_below {nr nb n : Nat} {B : Nat → OpD} (hB : ∀ i, i < n → ElemOK nr nb (B i)) : (treeE nr n B).Below (nr + nb) := by
  unfold treeE
  have := stk_below B n hB
  generalize stk (nodeE nr) B n = l at *
  match l, this with
  | [], _ => trivial
  | (s, t) :: r, h => exact h (s, t) (by simp)

/-! ### Programs -/
/-- The instructions of a node that begins at the index p. -/
def nodeC (r : Nat → Int) (o : InsD) (t : EX) (p : Nat) : List InsD := o :: (emit r t (p + 1) ++ [ins 11 0 0, ins 7 0 0])
theorem nodeC_len (r : Nat → Int) (o : InsD) (t : EX) (p : Nat) : (nodeC r o t p).length = t.len + 3 := by simp [nodeC, emit_len]
/-- The program with its first k nodes: op tells how a node opens, tr its tree, has whether it has one. -/
def progC (r : Nat → Int) (op : Nat → InsD) (tr : Nat → EX) (has : Nat → Bool) : Nat → List InsD
  | 0 => [ins 6 0 (r 0), ins 12 0 0]
  | k + 1 => if has k then progC r op tr has k ++ nodeC r (op k) (tr k) (progC r op tr has k).length else progC r op tr has k
theorem progC_len (r r' : Nat → Int) (op : Nat → InsD) (tr : Nat → EX) (has : Nat → Bool) (k : Nat) : (progC r op tr has k).length = (progC r' op tr has k).length := by
  induction k with
  | zero => rfl
  | succ k ih =>
    rw [progC, progC]
    split
    · rw [List.length_append, List.length_append, nodeC_len, nodeC_len, ih]
    · exact ih
/-- Where a node begins; -1 if it has no tree. -/
def placeC (op : Nat → InsD) (tr : Nat → EX) (has : Nat → Bool) (p : Nat) : Int := if has p then ((progC (fun _ => 0) op tr has p).length : Int) else -1
theorem progC_link (r : Nat → Int) (f : Int → Int) (op : Nat → InsD) (tr : Nat → EX) (has : Nat → Bool) (ho : ∀ p, (op p).kind = 9 ∨ (op p).kind = 10) (k : Nat) : (progC r op tr has k).map (lk f) = progC (fun n => f (r n)) op tr has k := by
  induction k with
  | zero => simp [progC, lk, ins]
  | succ k ih =>
    rw [progC, progC]
    split
    · rw [List.map_append, ih, progC_len (fun n => f (r n)) r]
      congr 1
      unfold nodeC
      simp only [List.map_cons, List.map_append, List.map_nil, emit_link]
      have e1 : lk f (op k) = op k := by
        unfold lk
        rw [if_neg]
        rcases ho k with q | q <;> omega
      rw [e1]
      simp [lk, ins]
    · exact ih
theorem progC_congr (r r' : Nat → Int) (op : Nat → InsD) (tr : Nat → EX) (has : Nat → Bool) (m : Nat) (h : ∀ n, n < m → r n = r' n) (h0 : 0 < m) (k : Nat) (ht : ∀ i, i < k → has i = true → (tr i).Below m) : progC r op tr has k = progC r' op tr has k := by
  induction k with
  | zero => simp [progC, h 0 h0]
  | succ k ih =>
    rw [progC, progC, ih (fun i hi => ht i (by omega))]
    by_cases e : has k = true
    · rw [if_pos e, if_pos e]
      unfold nodeC
      rw [emit_congr r r' m h (tr k) (ht k (by omega) e)]
    · rw [if_neg e, if_neg e]

end Go.Proofs.Ytjndcajblpgjmaa.M
