/-
  Plain mathematics: the tree of a body, and the text of a grammar.
-/
import Derived.Test.YtjpcojabdjldbaaTree
import Derived.Test.YtjpcojabdjldbaaStr
namespace Go.Proofs.Ytjpcojabdjldbaa
open M (OpD NodeD Gr TX b1)
set_option linter.unusedVariables false

def rname (g : Gr) (i : Nat) : ByteArray := str (g.rule i).nl (g.rule i).name
def lname (g : Gr) (i : Nat) : ByteArray := str (g.lab i).nl (g.lab i).name
def nodeG (g : Gr) : OpD → TX → TX → TX := M.nodeT (rname g) (lname g)
def treeB (g : Gr) (n : Nat) (B : Nat → OpD) : TX := M.top (M.stk (nodeG g) B n)

theorem rname_size {g : Gr} (hV : M.Valid g) {i : Nat} (hi : i < g.nr) : 0 < (rname g i).size ∧ (rname g i).size ≤ 32 := by
  unfold rname
  rw [str_size]
  exact ⟨(hV.rn i hi).2.2.1, (hV.rn i hi).1⟩
theorem lname_size {g : Gr} (hV : M.Valid g) {i : Nat} (hi : i < g.nb) : 0 < (lname g i).size ∧ (lname g i).size ≤ 32 := by
  unfold lname
  rw [str_size]
  exact ⟨(hV.ln i hi).2.2.1, (hV.ln i hi).1⟩

theorem node_fine {g : Gr} (hV : M.Valid g) {o : OpD} (ho : M.ElemOK g.nr g.nb o) {x y : TX} (hx : x.Fine) (hy : y.Fine) : (nodeG g o x y).Fine := by
  obtain ⟨h1, h2, h3, h4, h5, h6⟩ := ho
  unfold nodeG M.nodeT
  by_cases e1 : o.kind = 1
  · rw [if_pos e1]; exact h3 e1
  · rw [if_neg e1]
    by_cases e2 : o.kind = 2
    · rw [if_pos e2]
      unfold M.most at h6
      rw [if_neg (by omega), if_pos e2] at h6
      exact rname_size hV (by omega)
    · rw [if_neg e2]
      by_cases e3 : o.kind = 3
      · rw [if_pos e3]
        unfold M.most at h6
        rw [if_pos e3] at h6
        exact lname_size hV (by omega)
      · rw [if_neg e3]
        split
        · exact ⟨hx, hy⟩
        · split
          · exact ⟨hx, hy⟩
          · split
            · exact hx
            · split
              · exact hx
              · trivial

theorem stk_fine {g : Gr} (hV : M.Valid g) (B : Nat → OpD) (n : Nat) (hB : ∀ i, i < n → M.ElemOK g.nr g.nb (B i)) : ∀ p, p ∈ M.stk (nodeG g) B n → p.2.Fine := by
  induction n with
  | zero => intro p hp; simp [M.stk] at hp
  | succ n ih =>
    have ih' := ih (fun i hi => hB i (by omega))
    have ho := hB n (by omega)
    have hd : (default : TX).Fine := trivial
    rw [M.stk]
    generalize M.stk (nodeG g) B n = l at *
    intro p hp
    unfold M.stp at hp
    split at hp
    · match l, ih', hp with
      | [], _, hp => simp at hp
      | [_], _, hp => simp at hp
      | (s2, y) :: (s1, x) :: r, ih', hp =>
        rcases List.mem_cons.1 hp with rfl | hp
        · exact node_fine hV ho (ih' (s1, x) (by simp)) (ih' (s2, y) (by simp))
        · exact ih' p (by simp [hp])
    · split at hp
      · match l, ih', hp with
        | [], _, hp => simp at hp
        | (s1, x) :: r, ih', hp =>
          rcases List.mem_cons.1 hp with rfl | hp
          · exact node_fine hV ho (ih' (s1, x) (by simp)) hd
          · exact ih' p (by simp [hp])
      · rcases List.mem_cons.1 hp with rfl | hp
        · exact node_fine hV ho hd hd
        · exact ih' p hp

def szs : List (Nat × TX) → Nat
  | [] => 0
  | (_, t) :: r => t.sz + szs r
theorem node_sz (g : Gr) (o : OpD) (x y : TX) : (M.ar o.kind = 2 → (nodeG g o x y).sz = x.sz + y.sz + 1) ∧ (M.ar o.kind = 1 → (nodeG g o x y).sz = x.sz + 1) ∧ (M.ar o.kind = 0 → (nodeG g o x y).sz = 1) := by
  unfold nodeG M.nodeT M.ar
  by_cases e1 : o.kind = 1
  · simp [e1, M.TX.sz]
  · by_cases e2 : o.kind = 2
    · simp [e2, M.TX.sz]
    · by_cases e3 : o.kind = 3
      · simp [e3, M.TX.sz]
      · by_cases e4 : o.kind = 4
        · simp [e4, M.TX.sz]
        · by_cases e5 : o.kind = 5
          · simp [e5, M.TX.sz]
          · by_cases e6 : o.kind = 6
            · simp [e6, M.TX.sz]
            · by_cases e7 : o.kind = 7
              · simp [e7, M.TX.sz]
              · simp [e1, e2, e3, e4, e5, e6, e7, M.TX.sz]
theorem stk_sz (g : Gr) (B : Nat → OpD) (n : Nat) (h : M.Fed B n) : szs (M.stk (nodeG g) B n) = n := by
  induction n with
  | zero => rfl
  | succ n ih =>
    have e := ih (h.less (by omega))
    have hl := M.stk_len (nodeG g) B n (h.less (by omega))
    have hi := h n (by omega)
    rw [M.stk]
    generalize M.stk (nodeG g) B n = l at *
    rcases M.ar_cases (B n).kind with h0 | h0 | h0
    · have := (node_sz g (B n) default default).2.2 h0
      simp [M.stp, h0, szs, this]
      omega
    · rw [h0] at hi
      match l, e, hl with
      | [], e, hl => simp at hl; omega
      | (a, x) :: r, e, hl =>
        have := (node_sz g (B n) x default).2.1 h0
        simp [M.stp, h0, szs, this] at *
        omega
    · rw [h0] at hi
      match l, e, hl with
      | [], e, hl => simp at hl; omega
      | [(a, x)], e, hl => simp at hl; omega
      | (a, y) :: (b, x) :: r, e, hl =>
        have := (node_sz g (B n) x y).1 h0
        simp [M.stp, h0, szs, this] at *
        omega
theorem top_sz {l : List (Nat × TX)} : (M.top l).sz ≤ szs l + 1 := by
  match l with
  | [] => simp [M.top, szs]; exact Nat.le_refl 1
  | (s, t) :: r => simp [M.top, szs]; omega
theorem mem_sz {l : List (Nat × TX)} {p : Nat × TX} (h : p ∈ l) : p.2.sz ≤ szs l := by
  induction l with
  | nil => cases h
  | cons q r ih =>
    obtain ⟨s, t⟩ := q
    rcases List.mem_cons.1 h with rfl | h
    · simp [szs]
    · have := ih h; simp [szs]; omega

/-- The tree of a body. -/
theorem tree_fine {g : Gr} (hV : M.Valid g) {n : Nat} {B : Nat → OpD} (hB : M.BodyOK g.nr g.nb n B) : (treeB g n B).Fine := by
  unfold treeB
  have := stk_fine hV B n hB.1
  generalize M.stk (nodeG g) B n = l at *
  match l, this with
  | [], _ => trivial
  | (s, t) :: r, h => exact h (s, t) (by simp)
theorem tree_size {g : Gr} (hV : M.Valid g) {n : Nat} {B : Nat → OpD} (hB : M.BodyOK g.nr g.nb n B) : (treeB g n B).text.size ≤ 1210 * (n + 1) := by
  have h1 := M.text_size _ (tree_fine hV hB)
  have h2 := stk_sz g B n hB.2.1
  have h3 := top_sz (l := M.stk (nodeG g) B n)
  rw [h2] at h3
  have : (treeB g n B).sz ≤ n + 1 := h3
  omega

/-! ### The text of a grammar -/
def lineT (nm : ByteArray) (t : TX) : ByteArray := nm ++ ⟨#[32, 61, 32]⟩ ++ t.text ++ ⟨#[32, 59, 10]⟩
def rtree (g : Gr) (k : Nat) : TX := treeB g (g.rule k).bl (g.rule k).body
def ltree (g : Gr) (k : Nat) : TX := treeB g (g.lab k).bl (g.lab k).body
def rulesT (g : Gr) : Nat → ByteArray
  | 0 => ByteArray.empty
  | k + 1 => rulesT g k ++ lineT (rname g k) (rtree g k)
def labsT (g : Gr) : Nat → ByteArray
  | 0 => rulesT g g.nr
  | k + 1 => if (g.lab k).has then labsT g k ++ (b1 94 ++ lineT (lname g k) (ltree g k)) else labsT g k
def gText (g : Gr) : ByteArray := labsT g g.nb

theorem line_size (nm : ByteArray) (t : TX) : (lineT nm t).size = nm.size + t.text.size + 6 := by
  unfold lineT
  rw [ByteArray.size_append, ByteArray.size_append, ByteArray.size_append]
  have e1 : (ByteArray.mk #[32, 61, 32]).size = 3 := rfl
  have e2 : (ByteArray.mk #[32, 59, 10]).size = 3 := rfl
  omega
theorem rulesT_size {g : Gr} (hV : M.Valid g) (k : Nat) (hk : k ≤ g.nr) : (rulesT g k).size ≤ 1300 * k + 1210 * M.sum (fun i => (g.rule i).bl) k := by
  induction k with
  | zero => simp [rulesT, M.sum]
  | succ k ih =>
    have h1 := ih (by omega)
    have h2 := tree_size hV (hV.rb k (by omega))
    have h3 := rname_size hV (i := k) (by omega)
    rw [rulesT, ByteArray.size_append, line_size, M.sum]
    unfold rtree
    omega
theorem labsT_size {g : Gr} (hV : M.Valid g) (k : Nat) (hk : k ≤ g.nb) : (labsT g k).size ≤ 1300 * g.nr + 1210 * M.sum (fun i => (g.rule i).bl) g.nr + (1300 * k + 1210 * M.sum (fun i => (g.lab i).bl) k) := by
  induction k with
  | zero => have := rulesT_size hV g.nr (Nat.le_refl _); simp [labsT, M.sum]; exact this
  | succ k ih =>
    have h1 := ih (by omega)
    rw [labsT, M.sum]
    split
    · rename_i hh
      have h2 := tree_size hV (hV.lb k (by omega) hh)
      have h3 := lname_size hV (i := k) (by omega)
      rw [ByteArray.size_append, ByteArray.size_append, line_size, M.b1_size]
      unfold ltree
      omega
    · omega
theorem rulesT_bd {g : Gr} (hV : M.Valid g) (k : Nat) (hk : k ≤ g.nr) : (rulesT g k).size ≤ 2700000 := by
  have h1 := rulesT_size hV k hk
  have h2 := M.sum_le (fun i => (g.rule i).bl) hk
  have h3 := hV.ol
  have h4 := hV.r2
  unfold M.ops at h3
  omega
theorem labsT_bd {g : Gr} (hV : M.Valid g) (k : Nat) (hk : k ≤ g.nb) : (labsT g k).size ≤ 2700000 := by
  have h1 := labsT_size hV k hk
  have h2 := M.sum_le (fun i => (g.lab i).bl) hk
  have h3 := hV.ol
  have h4 := hV.r2
  have h5 := hV.l2
  unfold M.ops at h3
  omega
theorem rbl_bd {g : Gr} (hV : M.Valid g) {k : Nat} (hk : k < g.nr) : (g.rule k).bl ≤ 2000 := by
  have h3 := hV.ol
  unfold M.ops at h3
  have := M.le_sum (fun i => (g.rule i).bl) hk
  omega
theorem lbl_bd {g : Gr} (hV : M.Valid g) {k : Nat} (hk : k < g.nb) : (g.lab k).bl ≤ 2000 := by
  have h3 := hV.ol
  unfold M.ops at h3
  have := M.le_sum (fun i => (g.lab i).bl) hk
  omega

/-! ### The stack, cut -/
section
variable {α : Type} [Inhabited α] (f : OpD → α → α → α) (B : Nat → OpD)
theorem bin_splitG (q lo : Nat) (x : α) (hF : M.Fed B (q + 1)) (h2 : M.ar (B q).kind = 2) (e : M.stk f B (q + 1) = (lo, x) :: M.stk f B lo) :
    ∃ s y z, lo < s ∧ s < q ∧ M.stk f B q = (s, y) :: M.stk f B s ∧ M.stk f B s = (lo, z) :: M.stk f B lo ∧ x = f (B q) z y ∧ M.dep B s + 1 = M.dep B q ∧ ∀ j, s < j → j ≤ q → M.dep B q ≤ M.dep B j := by
  have hq : M.Fed B q := hF.less (by omega)
  have hl := M.stk_len f B q hq
  have hi := hF q (by omega)
  rw [M.stk] at e
  match hs : M.stk f B q with
  | [] => rw [hs] at hl; simp at hl; omega
  | [(s, y)] => rw [hs] at hl; simp at hl; omega
  | (s, y) :: (s1, z) :: r =>
    rw [hs] at e hl
    simp only [M.stp, h2, if_true, List.cons.injEq, Prod.mk.injEq] at e
    obtain ⟨⟨rfl, rfl⟩, er⟩ := e
    obtain ⟨a1, a2, a3⟩ := M.stk_cons f B q hq s y _ hs
    obtain ⟨b1, b2, b3⟩ := M.stk_cons f B s (hq.less (by omega)) s1 z r a2.symm
    have l2 := M.stk_len f B s (hq.less (by omega))
    rw [← a2] at l2
    simp at hl l2
    exact ⟨s, y, z, b1, a1, by rw [← a2], by rw [← a2, b2], rfl, by omega, a3⟩
theorem un_splitG (q lo : Nat) (x : α) (hF : M.Fed B (q + 1)) (h1 : M.ar (B q).kind = 1) (e : M.stk f B (q + 1) = (lo, x) :: M.stk f B lo) :
    ∃ z, lo < q ∧ M.stk f B q = (lo, z) :: M.stk f B lo ∧ x = f (B q) z default := by
  have hq : M.Fed B q := hF.less (by omega)
  have hl := M.stk_len f B q hq
  have hi := hF q (by omega)
  rw [M.stk] at e
  match hs : M.stk f B q with
  | [] => rw [hs] at hl; simp at hl; omega
  | (s, z) :: r =>
    rw [hs] at e hl
    simp [M.stp, h1] at e
    obtain ⟨⟨rfl, rfl⟩, er⟩ := e
    obtain ⟨a1, a2, a3⟩ := M.stk_cons f B q hq s z _ hs
    exact ⟨z, a1, by rw [← er], rfl⟩
theorem leaf_splitG (q lo : Nat) (x : α) (h0 : M.ar (B q).kind = 0) (e : M.stk f B (q + 1) = (lo, x) :: M.stk f B lo) : x = f (B q) default default := by
  rw [M.stk] at e
  simp [M.stp, h0] at e
  exact e.1.2.symm
end
/-- How tightly the topmost tree binds. -/
theorem top_bind (g : Gr) (B : Nat → OpD) (q s : Nat) (y : TX) (r : List (Nat × TX)) (hF : M.Fed B q) (e : M.stk (nodeG g) B q = (s, y) :: r) : y.bind = M.bindK (B (q - 1)).kind := by
  match q, hF, e with
  | 0, _, e => simp [M.stk] at e
  | q + 1, hF, e =>
    have hl := M.stk_len (nodeG g) B q (hF.less (by omega))
    have hi := hF q (by omega)
    rw [M.stk] at e
    show y.bind = M.bindK (B q).kind
    rcases M.ar_cases (B q).kind with h0 | h0 | h0
    · simp [M.stp, h0] at e
      rw [← e.1.2]
      exact M.nodeT_bind _ _ _ _ _
    · match hs : M.stk (nodeG g) B q with
      | [] => rw [hs] at hl; simp at hl; omega
      | (s1, z) :: r1 =>
        rw [hs] at e
        simp [M.stp, h0] at e
        rw [← e.1.2]
        exact M.nodeT_bind _ _ _ _ _
    · match hs : M.stk (nodeG g) B q with
      | [] => rw [hs] at hl; simp at hl; omega
      | [(s1, z)] => rw [hs] at hl; simp at hl; omega
      | (s2, z2) :: (s1, z) :: r1 =>
        rw [hs] at e
        simp [M.stp, h0] at e
        rw [← e.1.2]
        exact M.nodeT_bind _ _ _ _ _

end Go.Proofs.Ytjpcojabdjldbaa
