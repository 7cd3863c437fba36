import Derived.Test.YteoddjobpmmgeaaGreatT18
import Derived.Test.YteoddjobpmmgeaaGreatT22
import Derived.Test.YteoddjobpmmgeaaGreatT40
import Derived.Test.YteoddjobpmmgeaaGreatT44
set_option linter.unusedVariables false
set_option linter.unusedSimpArgs false
namespace Go.Proofs.YteoddjobpmmgeaaGreat
section
open Go.RowKit
open M (OpD NodeD Gr)
theorem lf_at {l : List Int} {i : Nat} {x : Int} (h : l[i]? = some x) : lf l i = x := by unfold lf; rw [List.getD_eq_getElem?_getD, h]; rfl
theorem canon_pair {l : List Int} {b : Int} (h : M.Canon l.length (lf l)) (h0 : 0 ≤ b) (h1 : b ≤ 255) (hl : ∀ x, l.getLast? = some x → x + 2 ≤ b) : M.Canon (l ++ [b, b]).length (lf (l ++ [b, b])) := by
  obtain ⟨he, hc⟩ := h
  have hlen : (l ++ [b, b]).length = l.length + 2 := by simp
  rw [hlen]
  have old : ∀ i, i < l.length → lf (l ++ [b, b]) i = lf l i := fun i hi => by unfold lf; rw [List.getD_eq_getElem?_getD, List.getD_eq_getElem?_getD, List.getElem?_append_left hi]
  have n0 : lf (l ++ [b, b]) l.length = b := lf_at (by rw [List.getElem?_append_right (Nat.le_refl _)]; simp)
  have n1 : lf (l ++ [b, b]) (l.length + 1) = b := lf_at (by rw [List.getElem?_append_right (by omega)]; simp)
  refine ⟨by omega, fun i hi => ?_⟩
  by_cases hi1 : i < l.length
  · obtain ⟨c1, c2, c3, c4⟩ := hc i hi1
    refine ⟨by rw [old i hi1]; exact c1, by rw [old i hi1]; exact c2, fun q => by rw [old i hi1, old (i - 1) (by omega)]; exact c3 q, fun q => by rw [old i hi1, old (i - 1) (by omega)]; exact c4 q⟩
  · by_cases hi2 : i = l.length
    · subst hi2
      refine ⟨by rw [n0]; exact h0, by rw [n0]; exact h1, fun q => by omega, fun q => ?_⟩
      rw [n0, old (l.length - 1) (by omega)]
      refine hl _ ?_
      rw [List.getLast?_eq_getElem?]
      have hx : l[l.length - 1]? = some l[l.length - 1] := List.getElem?_eq_getElem (by omega)
      rw [hx, lf_at hx]
    · obtain rfl : i = l.length + 1 := by omega
      refine ⟨by rw [n1]; exact h0, by rw [n1]; exact h1, fun q => by rw [n1, Nat.add_sub_cancel, n0]; exact Int.le_refl _, fun q => by omega⟩
theorem canon_last {l : List Int} {b x : Int} (h : M.Canon (l ++ [x]).length (lf (l ++ [x]))) (hx : x ≤ b) (h1 : b ≤ 255) : M.Canon (l ++ [b]).length (lf (l ++ [b])) := by
  obtain ⟨he, hc⟩ := h
  have e1 : (l ++ [x]).length = l.length + 1 := by simp
  have e2 : (l ++ [b]).length = l.length + 1 := by simp
  rw [e1] at he hc
  rw [e2]
  have old : ∀ y i, i < l.length → lf (l ++ [y]) i = lf l i := fun y i hi => lf_snoc_lt l y hi
  refine ⟨he, fun i hi => ?_⟩
  have hq := hc i hi
  by_cases hi1 : i < l.length
  · unfold M.CanAt at hq ⊢
    rw [old x i hi1, old x (i - 1) (by omega)] at hq
    rw [old b i hi1, old b (i - 1) (by omega)]
    exact hq
  · obtain rfl : i = l.length := by omega
    unfold M.CanAt at hq ⊢
    rw [lf_snoc_eq] at hq ⊢
    obtain ⟨c1, c2, c3, c4⟩ := hq
    refine ⟨by omega, h1, fun q => ?_, fun q => by omega⟩
    have := c3 q
    rw [old x (l.length - 1) (by omega)] at this
    rw [old b (l.length - 1) (by omega)]
    omega
theorem cl_canon (m : Nat → Bool) : ∀ b, b ≤ 256 → M.Canon (cl m b).length (lf (cl m b))
  | 0, _ => ⟨by simp [cl], fun i hi => absurd hi (by simp [cl])⟩
  | b + 1, hb => by
    have ih := cl_canon m b (by omega)
    obtain ⟨h1, h2⟩ := cl_last m b
    rw [cl]
    split
    · split
      · rename_i hp
        obtain ⟨X, hX⟩ := List.getLast?_eq_some_iff.1 (h1 hp)
        rw [hX] at ih ⊢
        rw [List.dropLast_concat]
        exact canon_last ih (by omega) (by omega)
      · rename_i hp
        exact canon_pair ih (by omega) (by omega) (fun x hx => by have := (h2 x hx).2 hp; omega)
    · exact ih
theorem rg_canon (m : Nat → Bool) : M.Canon (rg m 256).length (lf (rg m 256)) := by
  rw [rg_cl_all]
  exact cl_canon m 256 (Nat.le_refl _)
theorem two_canon {a b : Int} (h0 : 0 ≤ a) (h1 : a ≤ b) (h2 : b ≤ 255) : M.Canon [a, b].length (lf [a, b]) := by
  refine ⟨by simp, fun i hi => ?_⟩
  match i, hi with
  | 0, _ => exact ⟨h0, by show a ≤ 255; omega, fun q => absurd q (by omega), fun q => absurd q.1 (by omega)⟩
  | 1, _ => exact ⟨by show 0 ≤ b; omega, h2, fun _ => h1, fun q => absurd q.2 (by omega)⟩
def runD : List OpD → Int → Option Int
  | [], d => some d
  | o :: r, d => if M.ar o.kind ≤ d then runD r (d + (1 - M.ar o.kind)) else none
theorem runD_app : ∀ (x y : List OpD) (d : Int), runD (x ++ y) d = (runD x d).bind (runD y)
  | [], y, d => rfl
  | o :: r, y, d => by
    rw [List.cons_append, runD, runD]
    split
    · exact runD_app r y _
    · rfl
def Post (D : List OpD) : Prop := ∀ d, 0 ≤ d → runD D d = some (d + 1)
theorem post_leaf {o : OpD} (h : M.ar o.kind = 0) : Post [o] := fun d hd => by rw [runD, h, if_pos hd, runD]; simp
theorem post_un {k : Int} {D : List OpD} (h : Post D) (hk : M.ar k = 1) : Post (unD k D) := fun d hd => by
  rw [unD, runD_app, h d hd]
  show runD [opd k 0] (d + 1) = _
  rw [runD]
  have e : M.ar (opd k 0).kind = 1 := hk
  rw [e, if_pos (by omega), runD]
  simp
theorem post_bin {k : Int} {D D' : List OpD} (h : Post D) (h' : Post D') (hk : M.ar k = 2) : Post (binD k D D') := fun d hd => by
  rw [binD, runD_app, runD_app, h d hd]
  show ((runD D' (d + 1)).bind (runD [opd k 0])) = _
  rw [h' (d + 1) (by omega)]
  show runD [opd k 0] (d + 1 + 1) = _
  rw [runD]
  have e : M.ar (opd k 0).kind = 2 := hk
  rw [e, if_pos (by omega), runD]
  congr 1
  omega
theorem post_set (z : List Int) : Post (setD z) := post_leaf rfl
theorem post_strOps (z : List Int) : Post (strOps z) := by
  have key : ∀ (r : List Int) (D : List OpD), Post D → Post (r.foldl (fun out y => out ++ setD (oneD y) ++ [opd 4 0]) D) := by
    intro r
    induction r with
    | nil => exact fun D h => h
    | cons y r ih => exact fun D h => ih _ (post_bin h (post_set _) rfl)
  cases z with
  | nil => exact post_leaf rfl
  | cons x r => exact key r _ (post_set _)
theorem post_ops (rs ls : List (List Int)) (e : PE) : Post (e.ops rs ls) := by
  induction e with
  | ref t => exact post_leaf rfl
  | thr c t => exact post_leaf rfl
  | str t => exact post_strOps _
  | cls t => exact post_set _
  | dot t => exact post_set _
  | grp o e c ih => exact ih
  | star e t ih => exact post_un ih rfl
  | opt e t ih => exact post_bin ih (post_leaf rfl) rfl
  | not t e ih => exact post_un ih rfl
  | amp t e ih => exact post_un (post_un ih rfl) rfl
  | emp => exact post_leaf rfl
  | seq a b iha ihb => exact post_bin iha ihb rfl
  | alt a t b iha ihb => exact post_bin iha ihb rfl
theorem post_shape {D : List OpD} (h : Post D) : M.Shape D.length (df D) := by
  have key : ∀ i, i ≤ D.length → (∀ j, j < i → M.ar (df D j).kind ≤ M.dep (df D) j) ∧ runD (D.drop i) (M.dep (df D) i) = some 1 := by
    intro i
    induction i with
    | zero => exact fun _ => ⟨fun j hj => absurd hj (by omega), by rw [List.drop_zero]; exact h 0 (Int.le_refl _)⟩
    | succ i ih =>
      intro hi
      obtain ⟨h1, h2⟩ := ih (by omega)
      have hx : D[i]? = some D[i] := List.getElem?_eq_getElem (by omega)
      rw [drop_cons hx, runD] at h2
      have e : df D i = D[i] := df_at hx
      split at h2
      · rename_i hle
        refine ⟨fun j hj => ?_, ?_⟩
        · by_cases q : j = i
          · subst q; rw [e]; exact hle
          · exact h1 j (by omega)
        · rw [M.dep, e]; exact h2
      · cases h2
  obtain ⟨h1, h2⟩ := key D.length (Nat.le_refl _)
  rw [List.drop_of_length_le (Nat.le_refl _), runD] at h2
  injection h2 with h2
  exact ⟨h1, h2⟩
def PE.refs : PE → List (List Int)
  | .ref t => [t.nm]
  | .thr _ _ | .str _ | .cls _ | .dot _ | .emp => []
  | .grp _ e _ | .star e _ | .opt e _ | .not _ e | .amp _ e => e.refs
  | .seq a b | .alt a _ b => a.refs ++ b.refs
def PE.thrs : PE → List (List Int)
  | .thr _ t => [t.nm]
  | .ref _ | .str _ | .cls _ | .dot _ | .emp => []
  | .grp _ e _ | .star e _ | .opt e _ | .not _ e | .amp _ e => e.thrs
  | .seq a b | .alt a _ b => a.thrs ++ b.thrs
theorem findF_rng {z : List Int} {l : List (List Int)} (h : z ∈ l) : 0 ≤ findF z l 0 ∧ findF z l 0 < l.length := by
  have key : ∀ (l : List (List Int)) (i : Nat), z ∈ l → (i : Int) ≤ findF z l i ∧ findF z l i < (i : Int) + l.length := by
    intro l
    induction l with
    | nil => intro i h; cases h
    | cons y r ih =>
      intro i h
      rw [findF]
      by_cases e : y = z
      · rw [if_pos e]
        simp only [List.length_cons]
        omega
      · rw [if_neg e]
        have := ih (i + 1) ((List.mem_cons.1 h).resolve_left (fun q => e q.symm))
        simp only [List.length_cons]
        omega
  have := key l 0 h
  omega
theorem elem_plain {nr nb : Nat} {k : Int} (h0 : 0 ≤ k) (h7 : k ≤ 7) (h1 : k ≠ 1) (h2 : k ≠ 2) (h3 : k ≠ 3) : M.ElemOK nr nb (opd k 0) :=
  ⟨h0, h7, fun q => absurd q h1, fun _ => rfl, Int.le_refl _, by show (0 : Int) < M.most nr nb k; unfold M.most; rw [if_neg h3, if_neg h2]; omega⟩
theorem elem_set {nr nb : Nat} {z : List Int} (h : M.Canon z.length (lf z)) : ∀ x ∈ setD z, M.ElemOK nr nb x := fun x hx => by
  rw [setD] at hx
  rw [List.mem_singleton.1 hx]
  exact ⟨by show (0 : Int) ≤ 1; decide, by show (1 : Int) ≤ 7; decide, fun _ => h, fun q => absurd rfl q, Int.le_refl _, by show (0 : Int) < M.most nr nb 1; unfold M.most; rw [if_neg (by decide), if_neg (by decide)]; decide⟩
theorem elem_ops {n : Nat} (rs ls : List (List Int)) (e : PE) (hT : ∀ t ∈ e.tk, TokF n t) (hok : e.ok 5) (hr : ∀ z ∈ e.refs, z ∈ rs) (ht : ∀ z ∈ e.thrs, z ∈ ls) : ∀ x ∈ e.ops rs ls, M.ElemOK rs.length ls.length x := by
  have un : ∀ k D, k = 6 ∨ k = 7 → (∀ x ∈ D, M.ElemOK rs.length ls.length x) → ∀ x ∈ unD k D, M.ElemOK rs.length ls.length x := fun k D hk h x hx => by
    rw [unD] at hx
    rcases List.mem_append.1 hx with q | q
    · exact h x q
    · rw [List.mem_singleton.1 q]; rcases hk with rfl | rfl <;> exact elem_plain (by decide) (by decide) (by decide) (by decide) (by decide)
  have bin : ∀ k D D', k = 4 ∨ k = 5 → (∀ x ∈ D, M.ElemOK rs.length ls.length x) → (∀ x ∈ D', M.ElemOK rs.length ls.length x) → ∀ x ∈ binD k D D', M.ElemOK rs.length ls.length x := fun k D D' hk h h' x hx => by
    rw [binD] at hx
    simp only [List.mem_append, List.mem_singleton] at hx
    rcases hx with (q | q) | q
    · exact h x q
    · exact h' x q
    · rw [q]; rcases hk with rfl | rfl <;> exact elem_plain (by decide) (by decide) (by decide) (by decide) (by decide)
  have emp : ∀ x ∈ leafD 0 0, M.ElemOK rs.length ls.length x := fun x hx => by
    rw [leafD] at hx
    rw [List.mem_singleton.1 hx]
    exact elem_plain (by decide) (by decide) (by decide) (by decide) (by decide)
  have byt : ∀ y : Int, 0 ≤ y → y ≤ 255 → ∀ x ∈ setD (oneD y), M.ElemOK rs.length ls.length x := fun y h0 h1 => elem_set (two_canon h0 (Int.le_refl _) h1)
  have strs : ∀ z, BytL z → ∀ x ∈ strOps z, M.ElemOK rs.length ls.length x := by
    have key : ∀ (r : List Int) (D : List OpD), BytL r → (∀ x ∈ D, M.ElemOK rs.length ls.length x) → ∀ x ∈ r.foldl (fun out y => out ++ setD (oneD y) ++ [opd 4 0]) D, M.ElemOK rs.length ls.length x := by
      intro r
      induction r with
      | nil => exact fun D _ h => h
      | cons y r ih => exact fun D hb h => ih _ (fun x hx => hb x (by simp [hx])) (bin 4 D (setD (oneD y)) (.inl rfl) h (byt y (hb y (by simp)).1 (hb y (by simp)).2))
    intro z hb
    cases z with
    | nil => exact emp
    | cons y r => exact key r _ (fun x hx => hb x (by simp [hx])) (byt y (hb y (by simp)).1 (hb y (by simp)).2)
  have main : ∀ (e : PE) (l : Nat), (∀ t ∈ e.tk, TokF n t) → e.ok l → (∀ z ∈ e.refs, z ∈ rs) → (∀ z ∈ e.thrs, z ∈ ls) → ∀ x ∈ e.ops rs ls, M.ElemOK rs.length ls.length x := by
    intro e
    induction e with
    | ref t =>
      intro l hT hok hr ht x hx
      rw [PE.ops, leafD] at hx
      rw [List.mem_singleton.1 hx]
      have := findF_rng (hr t.nm (by simp [PE.refs]))
      exact ⟨by show (0 : Int) ≤ 2; decide, by show (2 : Int) ≤ 7; decide, fun q => absurd (show (2 : Int) = 1 from q) (by decide), fun _ => rfl, this.1, by show findF t.nm rs 0 < M.most _ _ 2; unfold M.most; rw [if_neg (by decide), if_pos rfl]; exact this.2⟩
    | thr c t =>
      intro l hT hok hr ht x hx
      rw [PE.ops, leafD] at hx
      rw [List.mem_singleton.1 hx]
      have := findF_rng (ht t.nm (by simp [PE.thrs]))
      exact ⟨by show (0 : Int) ≤ 3; decide, by show (3 : Int) ≤ 7; decide, fun q => absurd (show (3 : Int) = 1 from q) (by decide), fun _ => rfl, this.1, by show findF t.nm ls 0 < M.most _ _ 3; unfold M.most; rw [if_pos rfl]; exact this.2⟩
    | str t => exact fun l hT _ _ _ => strs _ (hT t (by simp [PE.tk])).byt
    | cls t =>
      intro l hT hok _ _
      obtain ⟨m, hm⟩ := (hT t (by simp [PE.tk])).cls hok
      show ∀ x ∈ setD t.set, _
      exact elem_set (by rw [hm]; exact rg_canon m)
    | dot t => exact fun l _ _ _ _ => elem_set (two_canon (by decide) (by decide) (by decide))
    | grp o e c ih => exact fun l hT hok hr ht => ih 5 (fun t q => hT t (by simp [PE.tk, q])) hok.2.2 hr ht
    | star e t ih => exact fun l hT hok hr ht => un _ _ (.inl rfl) (ih 0 (fun t q => hT t (by simp [PE.tk, q])) hok.2.2 hr ht)
    | opt e t ih => exact fun l hT hok hr ht => bin _ _ _ (.inr rfl) (ih 0 (fun t q => hT t (by simp [PE.tk, q])) hok.2.2 hr ht) emp
    | not t e ih => exact fun l hT hok hr ht => un _ _ (.inr rfl) (ih 2 (fun t q => hT t (by simp [PE.tk, q])) hok.2.2 hr ht)
    | amp t e ih => exact fun l hT hok hr ht => un _ _ (.inr rfl) (un _ _ (.inr rfl) (ih 2 (fun t q => hT t (by simp [PE.tk, q])) hok.2.2 hr ht))
    | emp => exact fun l _ _ _ _ => emp
    | seq a b iha ihb => exact fun l hT hok hr ht => bin _ _ _ (.inl rfl) (iha 3 (fun t q => hT t (by simp [PE.tk, q])) hok.2.1 (fun z q => hr z (by simp [PE.refs, q])) (fun z q => ht z (by simp [PE.thrs, q]))) (ihb 2 (fun t q => hT t (by simp [PE.tk, q])) hok.2.2 (fun z q => hr z (by simp [PE.refs, q])) (fun z q => ht z (by simp [PE.thrs, q])))
    | alt a t b iha ihb => exact fun l hT hok hr ht => bin _ _ _ (.inr rfl) (iha 5 (fun t q => hT t (by simp [PE.tk, q])) hok.2.2.1 (fun z q => hr z (by simp [PE.refs, q])) (fun z q => ht z (by simp [PE.thrs, q]))) (ihb 4 (fun t q => hT t (by simp [PE.tk, q])) hok.2.2.2 (fun z q => hr z (by simp [PE.refs, q])) (fun z q => ht z (by simp [PE.thrs, q])))
  exact main e 5 hT hok hr ht
theorem body_ops {n : Nat} (rs ls : List (List Int)) (e : PE) (hT : ∀ t ∈ e.tk, TokF n t) (hok : e.ok 5) (hr : ∀ z ∈ e.refs, z ∈ rs) (ht : ∀ z ∈ e.thrs, z ∈ ls) : M.BodyOK rs.length ls.length (e.ops rs ls).length (df (e.ops rs ls)) :=
  ⟨fun i hi => by rw [df_at (List.getElem?_eq_getElem hi)]; exact elem_ops rs ls e hT hok hr ht _ (List.getElem_mem hi), post_shape (post_ops rs ls e)⟩
end
section
open Go.RowKit
open M (OpD NodeD Gr)
theorem refT_tk : ∀ (e : PE), ∀ t ∈ e.refT, t ∈ e.tk := by
  intro e
  induction e with
  | ref t => intro x hx; simpa [PE.refT, PE.tk] using hx
  | thr c t => intro x hx; cases hx
  | str t => intro x hx; cases hx
  | cls t => intro x hx; cases hx
  | dot t => intro x hx; cases hx
  | grp o e c ih => intro x hx; have := ih x hx; simp [PE.tk, this]
  | star e t ih => intro x hx; have := ih x hx; simp [PE.tk, this]
  | opt e t ih => intro x hx; have := ih x hx; simp [PE.tk, this]
  | not t e ih => intro x hx; have := ih x hx; simp [PE.tk, this]
  | amp t e ih => intro x hx; have := ih x hx; simp [PE.tk, this]
  | emp => intro x hx; cases hx
  | seq a b iha ihb => intro x hx; rcases List.mem_append.1 hx with q | q; have := iha x q; simp [PE.tk, this]; have := ihb x q; simp [PE.tk, this]
  | alt a t b iha ihb => intro x hx; rcases List.mem_append.1 hx with q | q; have := iha x q; simp [PE.tk, this]; have := ihb x q; simp [PE.tk, this]
theorem thrT_tk : ∀ (e : PE), ∀ t ∈ e.thrT, t ∈ e.tk := by
  intro e
  induction e with
  | thr c t => intro x hx; have : x = t := by simpa [PE.thrT] using hx
               simp [PE.tk, this]
  | ref t => intro x hx; cases hx
  | str t => intro x hx; cases hx
  | cls t => intro x hx; cases hx
  | dot t => intro x hx; cases hx
  | grp o e c ih => intro x hx; have := ih x hx; simp [PE.tk, this]
  | star e t ih => intro x hx; have := ih x hx; simp [PE.tk, this]
  | opt e t ih => intro x hx; have := ih x hx; simp [PE.tk, this]
  | not t e ih => intro x hx; have := ih x hx; simp [PE.tk, this]
  | amp t e ih => intro x hx; have := ih x hx; simp [PE.tk, this]
  | emp => intro x hx; cases hx
  | seq a b iha ihb => intro x hx; rcases List.mem_append.1 hx with q | q; have := iha x q; simp [PE.tk, this]; have := ihb x q; simp [PE.tk, this]
  | alt a t b iha ihb => intro x hx; rcases List.mem_append.1 hx with q | q; have := iha x q; simp [PE.tk, this]; have := ihb x q; simp [PE.tk, this]
theorem refs_refT : ∀ (e : PE), e.refs = e.refT.map (·.nm) := by
  intro e
  induction e with
  | ref t => rfl
  | thr c t => rfl
  | str t => rfl
  | cls t => rfl
  | dot t => rfl
  | grp o e c ih => exact ih
  | star e t ih => exact ih
  | opt e t ih => exact ih
  | not t e ih => exact ih
  | amp t e ih => exact ih
  | emp => rfl
  | seq a b iha ihb => simp [PE.refs, PE.refT, iha, ihb]
  | alt a t b iha ihb => simp [PE.refs, PE.refT, iha, ihb]
theorem thrs_thrT : ∀ (e : PE), e.thrs = e.thrT.map (·.nm) := by
  intro e
  induction e with
  | ref t => rfl
  | thr c t => rfl
  | str t => rfl
  | cls t => rfl
  | dot t => rfl
  | grp o e c ih => exact ih
  | star e t ih => exact ih
  | opt e t ih => exact ih
  | not t e ih => exact ih
  | amp t e ih => exact ih
  | emp => rfl
  | seq a b iha ihb => simp [PE.thrs, PE.thrT, iha, ihb]
  | alt a t b iha ihb => simp [PE.thrs, PE.thrT, iha, ihb]
def orE (a b : Option Nat) : Option Nat := match a with | some p => some p | none => b
theorem refB_app (ns : List (List Int)) : ∀ (x y : List Tok), refB ns (x ++ y) = orE (refB ns x) (refB ns y)
  | [], y => rfl
  | t :: r, y => by
    rw [List.cons_append, refB, refB, refB_app ns r y]
    split <;> rfl
theorem orE_assoc (a b c : Option Nat) : orE (orE a b) c = orE a (orE b c) := by cases a <;> rfl
theorem refF_one {ns : List (List Int)} {t : Tok} {pc : Bool} {r : List Tok} (h1 : t.kind ≠ 110) (h2 : t.kind ≠ 94) : refF ns pc (t :: r) = refF ns false r := by
  rw [refF, if_neg (fun q => h1 q.1)]
  have : (t.kind == 94) = false := by simp [h2]
  rw [this]
theorem refF_app (ns : List (List Int)) : ∀ (e : PE) (l : Nat) (r : List Tok), e.ok l → refF ns false (e.tk ++ r) = orE (refB ns e.refT) (refF ns false r) := by
  intro e
  induction e with
  | ref t =>
    intro l r h
    have h : t.kind = 110 := h
    show refF ns false (t :: r) = _
    rw [refF]
    have e1 : (t.kind == 94) = false := by rw [h]; rfl
    rw [e1]
    simp only [PE.refT, refB]
    by_cases q : t.nm ∈ ns
    · rw [if_neg (fun z => z.2.2 q), if_pos q]; rfl
    · rw [if_pos ⟨h, trivial, q⟩, if_neg q]; rfl
  | thr c t =>
    intro l r h
    obtain ⟨h1, h2⟩ : c.kind = 94 ∧ t.kind = 110 := h
    show refF ns false (c :: t :: r) = refF ns false r
    rw [refF, if_neg (fun q => by omega)]
    have e1 : (c.kind == 94) = true := by rw [h1]; rfl
    rw [e1, refF, if_neg (fun q => by cases q.2.1)]
    have e2 : (t.kind == 94) = false := by rw [h2]; rfl
    rw [e2]
  | str t => intro l r h; have h : t.kind = 34 := h; exact refF_one (by omega) (by omega)
  | cls t => intro l r h; have h : t.kind = 91 := h; exact refF_one (by omega) (by omega)
  | dot t => intro l r h; have h : t.kind = 46 := h; exact refF_one (by omega) (by omega)
  | grp o e c ih =>
    intro l r h
    show refF ns false ((o :: (e.tk ++ [c])) ++ r) = _
    rw [List.cons_append, List.append_assoc, refF_one (by rw [h.1]; omega) (by rw [h.1]; omega), ih 5 _ h.2.2, List.singleton_append, refF_one (by rw [h.2.1]; omega) (by rw [h.2.1]; omega)]
    rfl
  | star e t ih =>
    intro l r h
    show refF ns false ((e.tk ++ [t]) ++ r) = _
    rw [List.append_assoc, ih 0 _ h.2.2, List.singleton_append, refF_one (by rw [h.2.1]; omega) (by rw [h.2.1]; omega)]
    rfl
  | opt e t ih =>
    intro l r h
    show refF ns false ((e.tk ++ [t]) ++ r) = _
    rw [List.append_assoc, ih 0 _ h.2.2, List.singleton_append, refF_one (by rw [h.2.1]; omega) (by rw [h.2.1]; omega)]
    rfl
  | not t e ih =>
    intro l r h
    show refF ns false (t :: (e.tk ++ r)) = _
    rw [refF_one (by rw [h.2.1]; omega) (by rw [h.2.1]; omega), ih 2 _ h.2.2]
    rfl
  | amp t e ih =>
    intro l r h
    show refF ns false (t :: (e.tk ++ r)) = _
    rw [refF_one (by rw [h.2.1]; omega) (by rw [h.2.1]; omega), ih 2 _ h.2.2]
    rfl
  | emp => intro l r h; rfl
  | seq a b iha ihb =>
    intro l r h
    show refF ns false ((a.tk ++ b.tk) ++ r) = orE (refB ns (a.refT ++ b.refT)) _
    rw [List.append_assoc, iha 3 _ h.2.1, ihb 2 _ h.2.2, refB_app, orE_assoc]
  | alt a t b iha ihb =>
    intro l r h
    show refF ns false ((a.tk ++ t :: b.tk) ++ r) = orE (refB ns (a.refT ++ b.refT)) _
    rw [List.append_assoc, iha 5 _ h.2.2.1, List.cons_append, refF_one (by rw [h.2.1]; omega) (by rw [h.2.1]; omega), ihb 4 _ h.2.2.2, refB_app, orE_assoc]
theorem refB_refsF (ns : List (List Int)) : ∀ (qs : List Rl), (∀ q ∈ qs, q.ok) → refB ns (refTs qs) = refsF ns qs
  | [], _ => rfl
  | q :: r, h => by
    have e1 : refTs (q :: r) = q.body.refT ++ refTs r := rfl
    have h2 := refF_app ns q.body 5 [] (h q (by simp)).2.2.2.1
    rw [List.append_nil] at h2
    rw [e1, refB_app, refB_refsF ns r (fun x hx => h x (by simp [hx])), refsF, h2]
    cases refB ns q.body.refT <;> rfl
theorem refB_none {ns : List (List Int)} : ∀ {l : List Tok}, refB ns l = none → ∀ t ∈ l, t.nm ∈ ns
  | [], _, t, h => by cases h
  | x :: r, h, t, ht => by
    rw [refB] at h
    split at h
    · rename_i q
      rcases List.mem_cons.1 ht with e | e
      · rw [e]; exact q
      · exact refB_none h t e
    · cases h
theorem afterC_one {x : Tok} {r : List Tok} (h : x.kind ≠ 94) : afterC (x :: r) = afterC r := by
  cases r with
  | nil => rfl
  | cons y r => rw [afterC, if_neg h]; rfl
theorem afterC_app : ∀ (e : PE) (l : Nat) (r : List Tok), e.ok l → afterC (e.tk ++ r) = e.thrT.map (·.nm) ++ afterC r := by
  intro e
  induction e with
  | ref t => intro l r h; have h : t.kind = 110 := h; exact afterC_one (by omega)
  | thr c t =>
    intro l r h
    obtain ⟨h1, h2⟩ : c.kind = 94 ∧ t.kind = 110 := h
    show afterC (c :: t :: r) = [t.nm] ++ afterC r
    rw [afterC, if_pos h1, afterC_one (by omega)]
  | str t => intro l r h; have h : t.kind = 34 := h; exact afterC_one (by omega)
  | cls t => intro l r h; have h : t.kind = 91 := h; exact afterC_one (by omega)
  | dot t => intro l r h; have h : t.kind = 46 := h; exact afterC_one (by omega)
  | grp o e c ih =>
    intro l r h
    show afterC ((o :: (e.tk ++ [c])) ++ r) = e.thrT.map (·.nm) ++ afterC r
    rw [List.cons_append, List.append_assoc, afterC_one (by rw [h.1]; omega), ih 5 _ h.2.2, List.singleton_append, afterC_one (by rw [h.2.1]; omega)]
  | star e t ih =>
    intro l r h
    show afterC ((e.tk ++ [t]) ++ r) = e.thrT.map (·.nm) ++ afterC r
    rw [List.append_assoc, ih 0 _ h.2.2, List.singleton_append, afterC_one (by rw [h.2.1]; omega)]
  | opt e t ih =>
    intro l r h
    show afterC ((e.tk ++ [t]) ++ r) = e.thrT.map (·.nm) ++ afterC r
    rw [List.append_assoc, ih 0 _ h.2.2, List.singleton_append, afterC_one (by rw [h.2.1]; omega)]
  | not t e ih =>
    intro l r h
    show afterC (t :: (e.tk ++ r)) = e.thrT.map (·.nm) ++ afterC r
    rw [afterC_one (by rw [h.2.1]; omega), ih 2 _ h.2.2]
  | amp t e ih =>
    intro l r h
    show afterC (t :: (e.tk ++ r)) = e.thrT.map (·.nm) ++ afterC r
    rw [afterC_one (by rw [h.2.1]; omega), ih 2 _ h.2.2]
  | emp => intro l r h; rfl
  | seq a b iha ihb =>
    intro l r h
    show afterC ((a.tk ++ b.tk) ++ r) = (a.thrT ++ b.thrT).map (·.nm) ++ afterC r
    rw [List.append_assoc, iha 3 _ h.2.1, ihb 2 _ h.2.2, List.map_append, List.append_assoc]
  | alt a t b iha ihb =>
    intro l r h
    show afterC ((a.tk ++ t :: b.tk) ++ r) = (a.thrT ++ b.thrT).map (·.nm) ++ afterC r
    rw [List.append_assoc, iha 5 _ h.2.2.1, List.cons_append, afterC_one (by rw [h.2.1]; omega), ihb 4 _ h.2.2.2, List.map_append, List.append_assoc]
theorem mem_labsAll {qs : List Rl} (h : ∀ q ∈ qs, q.ok) (z : List Int) : z ∈ labsAll qs ↔ z ∈ recsOf qs ∨ ∃ t ∈ thrTs qs, t.nm = z := by
  have e : ∀ q ∈ qs, afterC q.body.tk = q.body.thrT.map (·.nm) := fun q hq => by
    have := afterC_app q.body 5 [] (h q hq).2.2.2.1
    rw [List.append_nil] at this
    rw [this]
    simp [afterC]
  unfold labsAll recsOf thrTs labsOf
  simp only [List.mem_flatMap, List.mem_append, List.mem_map, List.mem_filter]
  constructor
  · rintro ⟨q, hq, h1 | h1⟩
    · split at h1
      · rename_i hc
        exact .inl ⟨q, ⟨hq, hc⟩, (List.mem_singleton.1 h1).symm⟩
      · cases h1
    · rw [e q hq] at h1
      obtain ⟨t, ht, rfl⟩ := List.mem_map.1 h1
      exact .inr ⟨t, ⟨q, hq, ht⟩, rfl⟩
  · rintro (⟨q, ⟨hq, hc⟩, rfl⟩ | ⟨t, ⟨q, hq, ht⟩, rfl⟩)
    · exact ⟨q, hq, .inl (by rw [if_pos hc]; simp)⟩
    · exact ⟨q, hq, .inr (by rw [e q hq]; exact List.mem_map.2 ⟨t, ht, rfl⟩)⟩
end
section
open Go.RowKit
open M (OpD NodeD Gr)
theorem nd_gram {l : List NL} {i : Nat} {x : NL} (h : l[i]? = some x) : node (l.getD i default) = node x := by rw [List.getD_eq_getElem?_getD, h]; rfl
theorem rule_gram {ls : List (List Int)} {qs : List Rl} {i : Nat} {x : NL} (h : (rulesNL (namesOf qs) ls qs)[i]? = some x) : (gramOf ls qs).rule i = node x := nd_gram h
theorem lab_gram {ls : List (List Int)} {qs : List Rl} {i : Nat} {x : NL} (h : (labsNL (namesOf qs) ls qs)[i]? = some x) : (gramOf ls qs).lab i = node x := nd_gram h
theorem names_rules (ls : List (List Int)) (qs : List Rl) : (rulesNL (namesOf qs) ls qs).map (·.nm) = namesOf qs := by
  unfold rulesNL
  rw [List.map_map]
  rfl
theorem nodup_names : ∀ {seen qs : List Rl}, dupF seen qs = none → (namesOf qs).Nodup ∧ ∀ z ∈ namesOf qs, z ∉ namesOf seen
  | seen, [], _ => ⟨List.nodup_nil, fun z hz => by cases hz⟩
  | seen, q :: r, h => by
    rw [dupF] at h
    split at h
    · cases h
    · rename_i hn
      obtain ⟨h1, h2⟩ := nodup_names h
      have e : namesOf (q :: r) = (if q.car.isSome then [] else [q.name.nm]) ++ namesOf r := by
        unfold namesOf
        cases hc : q.car <;> simp [hc]
      rw [namesOf_snoc] at h2
      rw [e]
      cases hc : q.car.isSome
      · rw [hc] at h2
        simp only [Bool.false_eq_true, if_false] at h2 ⊢
        have hq : q.name.nm ∉ namesOf seen := fun z => hn (by
          have := (seen_any seen q).2 (by rw [hc]; simpa using z)
          exact this)
        refine ⟨?_, fun z hz => ?_⟩
        · rw [List.singleton_append, List.nodup_cons]
          exact ⟨fun z => h2 _ z (by simp), h1⟩
        · rw [List.singleton_append] at hz
          rcases List.mem_cons.1 hz with rfl | hz
          · exact hq
          · exact fun y => h2 z hz (by simp [y])
      · rw [hc] at h2
        simp only [if_true, List.nil_append] at h2 ⊢
        exact ⟨h1, h2⟩
theorem asc_less : ∀ {l : List (List Int)}, Asc l → ∀ (i : Nat) (y z : List Int), l[i]? = some y → l[i + 1]? = some z → ltB y z
  | [], _, i, y, z, h, _ => by simp at h
  | x :: r, ha, 0, y, z, h, k => by
    simp at h k
    subst h
    exact ha.1 z (List.mem_of_getElem? k)
  | x :: r, ha, i + 1, y, z, h, k => by
    simp at h k
    exact asc_less ha.2 i y z h k
structure TxH (n : Nat) (qs : List Rl) (ls : List (List Int)) : Prop where
  ok : ∀ q ∈ qs, q.ok
  tok : ∀ q ∈ qs, TokF n q.name ∧ ∀ x ∈ q.body.tk, TokF n x
  dup : dupF [] qs = none
  refs : refB (namesOf qs) (refTs qs) = none
  ne : namesOf qs ≠ []
  asc : Asc ls
  mem : ∀ z, z ∈ ls ↔ z ∈ recsOf qs ∨ ∃ t ∈ thrTs qs, t.nm = z
theorem TxH.refIn {n : Nat} {qs : List Rl} {ls : List (List Int)} (h : TxH n qs ls) : ∀ q ∈ qs, ∀ t ∈ q.body.refT, t.nm ∈ namesOf qs := fun q hq t ht => refB_none h.refs t (List.mem_flatMap.2 ⟨q, hq, ht⟩)
theorem TxH.thrIn {n : Nat} {qs : List Rl} {ls : List (List Int)} (h : TxH n qs ls) : ∀ q ∈ qs, ∀ t ∈ q.body.thrT, t.nm ∈ ls := fun q hq t ht => (h.mem _).2 (.inr ⟨t, List.mem_flatMap.2 ⟨q, hq, ht⟩, rfl⟩)
theorem TxH.recIn {n : Nat} {qs : List Rl} {ls : List (List Int)} (h : TxH n qs ls) : ∀ q ∈ qs, q.car.isSome = true → q.name.nm ∈ ls := fun q hq hc => (h.mem _).2 (.inl (List.mem_map.2 ⟨q, List.mem_filter.2 ⟨hq, hc⟩, rfl⟩))
theorem tok_name {n : Nat} {x : Tok} (h : TokF n x) (hk : x.kind = 110) : M.NameB x.nm.length (lf x.nm) := by
  obtain ⟨h1, y, r, e, h2⟩ := h.name hk
  refine ⟨fun i hi => ?_, by rw [e]; simp, ?_⟩
  · rw [lf_at (List.getElem?_eq_getElem hi)]
    exact h1 _ (List.getElem_mem hi)
  · rw [e]
    exact h2
theorem thr_kind : ∀ (e : PE) (l : Nat), e.ok l → ∀ t ∈ e.thrT, t.kind = 110 := by
  intro e
  induction e with
  | thr c t => intro l h x hx; have : x = t := by simpa [PE.thrT] using hx
               rw [this]; exact h.2
  | ref t => intro l h x hx; cases hx
  | str t => intro l h x hx; cases hx
  | cls t => intro l h x hx; cases hx
  | dot t => intro l h x hx; cases hx
  | grp o e c ih => intro l h x hx; exact ih 5 h.2.2 x hx
  | star e t ih => intro l h x hx; exact ih 0 h.2.2 x hx
  | opt e t ih => intro l h x hx; exact ih 0 h.2.2 x hx
  | not t e ih => intro l h x hx; exact ih 2 h.2.2 x hx
  | amp t e ih => intro l h x hx; exact ih 2 h.2.2 x hx
  | emp => intro l h x hx; cases hx
  | seq a b iha ihb => intro l h x hx; rcases List.mem_append.1 hx with q | q; exact iha 3 h.2.1 x q; exact ihb 2 h.2.2 x q
  | alt a t b iha ihb => intro l h x hx; rcases List.mem_append.1 hx with q | q; exact iha 5 h.2.2.1 x q; exact ihb 4 h.2.2.2 x q
theorem TxH.labName {n : Nat} {qs : List Rl} {ls : List (List Int)} (h : TxH n qs ls) {z : List Int} (hz : z ∈ ls) : M.NameB z.length (lf z) := by
  rcases (h.mem z).1 hz with hr | ⟨t, ht, rfl⟩
  · obtain ⟨q, hq, rfl⟩ := List.mem_map.1 hr
    have hqm := (List.mem_filter.1 hq).1
    exact tok_name (h.tok q hqm).1 (h.ok q hqm).2.1
  · obtain ⟨q, hq, ht⟩ := List.mem_flatMap.1 ht
    exact tok_name ((h.tok q hq).2 t (thrT_tk _ t ht)) (thr_kind _ 5 (h.ok q hq).2.2.2.1 t ht)
theorem same_names {a b : List Int} (h : M.SameName (node ⟨a, true, []⟩) (node ⟨b, true, []⟩)) : a = b := by
  obtain ⟨h1, h2⟩ := h
  have h1 : a.length = b.length := h1
  refine List.ext_getElem? (fun i => ?_)
  by_cases hi : i < a.length
  · have e := h2 i hi
    have e : lf a i = lf b i := e
    rw [lf_at (List.getElem?_eq_getElem hi), lf_at (List.getElem?_eq_getElem (h1 ▸ hi))] at e
    rw [List.getElem?_eq_getElem hi, List.getElem?_eq_getElem (h1 ▸ hi), e]
  · rw [List.getElem?_eq_none (by omega), List.getElem?_eq_none (by omega)]
theorem TxH.names {n : Nat} {qs : List Rl} {ls : List (List Int)} (h : TxH n qs ls) : NamesOK (gramOf ls qs) := by
  have hrl : (gramOf ls qs).nr = (rulesNL (namesOf qs) ls qs).length := rfl
  have hll : (gramOf ls qs).nb = ls.length := by show (labsNL (namesOf qs) ls qs).length = _; unfold labsNL; rw [List.length_map]
  have rat : ∀ i, i < (gramOf ls qs).nr → ∃ q ∈ qs, q.car.isSome = false ∧ (gramOf ls qs).rule i = node (ruleNL (namesOf qs) ls q) ∧ (namesOf qs)[i]? = some q.name.nm := fun i hi => by
    rw [hrl] at hi
    have hx := List.getElem?_eq_getElem hi
    have hm := List.getElem_mem hi
    have e : (namesOf qs)[i]? = some ((rulesNL (namesOf qs) ls qs)[i]).nm := by
      have e0 := congrArg (fun l => l[i]?) (names_rules ls qs)
      simp only [List.getElem?_map, hx] at e0
      exact e0.symm
    generalize (rulesNL (namesOf qs) ls qs)[i] = x at hx hm e
    unfold rulesNL at hm
    obtain ⟨q, hq, rfl⟩ := List.mem_map.1 hm
    have hq' := List.mem_filter.1 hq
    exact ⟨q, hq'.1, by simpa using hq'.2, rule_gram hx, e⟩
  have lat : ∀ i, i < (gramOf ls qs).nb → ∃ z, ls[i]? = some z ∧ (gramOf ls qs).lab i = node (labNL (namesOf qs) ls qs z) := fun i hi => by
    rw [hll] at hi
    refine ⟨ls[i], List.getElem?_eq_getElem hi, lab_gram ?_⟩
    unfold labsNL
    rw [List.getElem?_map, List.getElem?_eq_getElem hi]
    rfl
  refine ⟨fun i hi => ?_, fun i hi => ?_⟩
  · obtain ⟨q, hq, hc, e, en⟩ := rat i hi
    rw [e]
    refine ⟨tok_name (h.tok q hq).1 (h.ok q hq).2.1, fun j hj hs => ?_⟩
    obtain ⟨q', hq', hc', e', en'⟩ := rat j (by omega)
    rw [e'] at hs
    have hnn : q.name.nm = q'.name.nm := same_names ⟨hs.1, hs.2⟩
    have hnd := (nodup_names h.dup).1
    rw [← hnn] at en'
    have e1 := ixN_at hnd en
    have e2 := ixN_at hnd en'
    omega
  · obtain ⟨z, hz, e⟩ := lat i hi
    rw [e]
    have en : (node (labNL (namesOf qs) ls qs z)).nl = z.length ∧ (node (labNL (namesOf qs) ls qs z)).name = lf z := by
      have := labNL_nm (namesOf qs) ls qs z
      exact ⟨by show (labNL (namesOf qs) ls qs z).nm.length = _; rw [this], by show lf (labNL (namesOf qs) ls qs z).nm = _; rw [this]⟩
    rw [en.1, en.2]
    refine ⟨h.labName (List.mem_of_getElem? hz), fun hi0 => ?_⟩
    obtain ⟨y, hy, e'⟩ := lat (i - 1) (by omega)
    rw [e']
    show M.LessT (labNL (namesOf qs) ls qs y).nm.length (lf (labNL (namesOf qs) ls qs y).nm) (labNL (namesOf qs) ls qs z).nm.length (lf (labNL (namesOf qs) ls qs z).nm)
    rw [labNL_nm, labNL_nm]
    exact (ltB_iff _ _).2 (asc_less h.asc (i - 1) y z hy (by rw [show i - 1 + 1 = i by omega]; exact hz))
theorem TxH.body {n : Nat} {qs : List Rl} {ls : List (List Int)} (h : TxH n qs ls) {q : Rl} (hq : q ∈ qs) : M.BodyOK (gramOf ls qs).nr (gramOf ls qs).nb (q.body.ops (namesOf qs) ls).length (df (q.body.ops (namesOf qs) ls)) := by
  have e1 : (gramOf ls qs).nr = (namesOf qs).length := by
    have e0 := congrArg List.length (names_rules ls qs)
    rw [List.length_map] at e0
    exact e0
  have e2 : (gramOf ls qs).nb = ls.length := by show (labsNL (namesOf qs) ls qs).length = _; unfold labsNL; rw [List.length_map]
  rw [e1, e2]
  refine body_ops (namesOf qs) ls q.body (h.tok q hq).2 (h.ok q hq).2.2.2.1 (fun z hz => ?_) (fun z hz => ?_)
  · rw [refs_refT] at hz
    obtain ⟨t, ht, rfl⟩ := List.mem_map.1 hz
    exact h.refIn q hq t ht
  · rw [thrs_thrT] at hz
    obtain ⟨t, ht, rfl⟩ := List.mem_map.1 hz
    exact h.thrIn q hq t ht
theorem TxH.bodies {n : Nat} {qs : List Rl} {ls : List (List Int)} (h : TxH n qs ls) : BodiesOK (gramOf ls qs) := by
  refine ⟨fun i hi => ?_, fun i hi => ?_⟩
  · have hi' : i < (rulesNL (namesOf qs) ls qs).length := hi
    have hx := List.getElem?_eq_getElem hi'
    have hm := List.getElem_mem hi'
    generalize (rulesNL (namesOf qs) ls qs)[i] = x at hx hm
    unfold rulesNL at hm
    obtain ⟨q, hq, rfl⟩ := List.mem_map.1 hm
    rw [rule_gram hx]
    exact h.body (List.mem_filter.1 hq).1
  · have hi' : i < (labsNL (namesOf qs) ls qs).length := hi
    have hx := List.getElem?_eq_getElem hi'
    have hm := List.getElem_mem hi'
    generalize (labsNL (namesOf qs) ls qs)[i] = x at hx hm
    unfold labsNL at hm
    obtain ⟨z, hz, rfl⟩ := List.mem_map.1 hm
    rw [lab_gram hx]
    unfold labNL
    cases hf : qs.find? (fun q => q.car.isSome && decide (q.name.nm = z)) with
    | none => exact ⟨fun q => absurd (show false = true from q) (by simp), fun _ => rfl⟩
    | some q => exact ⟨fun _ => h.body (List.mem_of_find?_eq_some hf), fun q => absurd (show true = false from q) (by simp)⟩
theorem thr_ops (rs ls : List (List Int)) : ∀ (e : PE), ∀ t ∈ e.thrT, opd 3 (findF t.nm ls 0) ∈ e.ops rs ls := by
  intro e
  induction e with
  | thr c t => intro x hx; have : x = t := by simpa [PE.thrT] using hx
               rw [this]; simp [PE.ops, leafD]
  | ref t => intro x hx; cases hx
  | str t => intro x hx; cases hx
  | cls t => intro x hx; cases hx
  | dot t => intro x hx; cases hx
  | grp o e c ih => exact ih
  | star e t ih => intro x hx; have := ih x hx; simp [PE.ops, unD, this]
  | opt e t ih => intro x hx; have := ih x hx; simp [PE.ops, binD, this]
  | not t e ih => intro x hx; have := ih x hx; simp [PE.ops, unD, this]
  | amp t e ih => intro x hx; have := ih x hx; simp [PE.ops, unD, this]
  | emp => intro x hx; cases hx
  | seq a b iha ihb => intro x hx; rcases List.mem_append.1 hx with q | q; have := iha x q; simp [PE.ops, binD, this]; have := ihb x q; simp [PE.ops, binD, this]
  | alt a t b iha ihb => intro x hx; rcases List.mem_append.1 hx with q | q; have := iha x q; simp [PE.ops, binD, this]; have := ihb x q; simp [PE.ops, binD, this]
theorem throws_of {D : List OpD} {k : Nat} (h : opd 3 ((k : Nat) : Int) ∈ D) : M.Throws D.length (df D) k := by
  obtain ⟨i, hi⟩ := List.getElem?_of_mem h
  exact ⟨i, (List.getElem?_eq_some_iff.1 hi).1, by rw [df_at hi]; rfl, by rw [df_at hi]; rfl⟩
theorem asc_nd : ∀ {l : List (List Int)}, Asc l → l.Nodup
  | [], _ => List.nodup_nil
  | x :: r, h => List.nodup_cons.2 ⟨fun q => ltB_irr x (h.1 x q), asc_nd h.2⟩
theorem TxH.meant {n : Nat} {qs : List Rl} {ls : List (List Int)} (h : TxH n qs ls) : Meant (gramOf ls qs) := by
  intro i hi hh
  rw [meant_iff]
  have hll : (gramOf ls qs).nb = ls.length := by show (labsNL (namesOf qs) ls qs).length = _; unfold labsNL; rw [List.length_map]
  have hil : i < ls.length := by omega
  have hz : ls[i]? = some ls[i] := List.getElem?_eq_getElem hil
  generalize ls[i] = z at hz
  have lat : ∀ (j : Nat) (y : List Int), ls[j]? = some y → (gramOf ls qs).lab j = node (labNL (namesOf qs) ls qs y) := fun j y hy => lab_gram (by unfold labsNL; rw [List.getElem?_map, hy]; rfl)
  rw [lat i z hz] at hh
  have hzm := List.mem_of_getElem? hz
  have hix : findF z ls 0 = ((i : Nat) : Int) := by rw [findF_ix hzm, ixN_at (asc_nd h.asc) hz, Nat.zero_add]
  have hno : ∀ q ∈ qs, q.car.isSome = true → q.name.nm ≠ z := fun q hq hc e => by
    have hs : ∃ q', qs.find? (fun q => q.car.isSome && decide (q.name.nm = z)) = some q' := by
      cases hf : qs.find? (fun q => q.car.isSome && decide (q.name.nm = z)) with
      | none =>
        have := List.find?_eq_none.1 hf q hq
        simp [hc, e] at this
      | some q' => exact ⟨q', rfl⟩
    obtain ⟨q', hf⟩ := hs
    unfold labNL at hh
    rw [hf] at hh
    have hh : true = false := hh
    cases hh
  rcases (h.mem z).1 hzm with hr | ⟨t, ht, etz⟩
  · obtain ⟨q, hq, e⟩ := List.mem_map.1 hr
    have hq' := List.mem_filter.1 hq
    exact absurd e (hno q hq'.1 hq'.2)
  · obtain ⟨q, hq, ht⟩ := List.mem_flatMap.1 ht
    have hop := thr_ops (namesOf qs) ls q.body t ht
    rw [etz, hix] at hop
    have hthr := throws_of hop
    cases hc : q.car.isSome with
    | false =>
      have hm : ruleNL (namesOf qs) ls q ∈ rulesNL (namesOf qs) ls qs := List.mem_map.2 ⟨q, List.mem_filter.2 ⟨hq, by rw [hc]; rfl⟩, rfl⟩
      obtain ⟨j, hj⟩ := List.getElem?_of_mem hm
      refine .inl ⟨j, (List.getElem?_eq_some_iff.1 hj).1, ?_⟩
      rw [rule_gram hj]
      exact hthr
    | true =>
      obtain ⟨j, hj⟩ := List.getElem?_of_mem (h.recIn q hq hc)
      refine .inr ⟨j, by rw [hll]; exact (List.getElem?_eq_some_iff.1 hj).1, ?_⟩
      rw [lat j _ hj]
      obtain ⟨m, hm⟩ := List.getElem?_of_mem hq
      have e : labNL (namesOf qs) ls qs q.name.nm = ⟨q.name.nm, true, q.body.ops (namesOf qs) ls⟩ := by
        have h0 : labNL (namesOf qs) ls (qs.take (m + 1)) q.name.nm = ⟨q.name.nm, true, q.body.ops (namesOf qs) ls⟩ := by
          rw [take_snoc hm]
          exact labNL_this hc (fun s hs => dup_none h.dup m q hm s (by simpa using hs))
        unfold labNL at h0 ⊢
        have h1 : qs.find? (fun s => s.car.isSome && decide (s.name.nm = q.name.nm)) = some q := by
          conv => lhs; rw [← List.take_append_drop (m + 1) qs]
          rw [List.find?_append, take_snoc hm, List.find?_append]
          have hn : (qs.take m).find? (fun s => s.car.isSome && decide (s.name.nm = q.name.nm)) = none := by
            rw [List.find?_eq_none]
            intro s hs
            have := dup_none h.dup m q hm s (by simpa using hs)
            unfold sameR at this
            rw [hc] at this
            simp at this ⊢
            exact this
          rw [hn]
          simp [hc]
        rw [h1]
      rw [e]
      exact hthr
theorem TxH.valid {n : Nat} {qs : List Rl} {ls : List (List Int)} (h : TxH n qs ls) : M.Valid (gramOf ls qs) ↔ ¬ Over (gramOf ls qs) := by
  rw [valid_iff]
  refine ⟨fun q => q.2.1, fun q => ⟨?_, q, h.names, h.bodies, h.meant⟩⟩
  show 0 < (rulesNL (namesOf qs) ls qs).length
  have e := congrArg List.length (names_rules ls qs)
  rw [List.length_map] at e
  rw [e]
  exact List.length_pos_iff.2 h.ne
end
end Go.Proofs.YteoddjobpmmgeaaGreat
