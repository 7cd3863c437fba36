import Derived.Test.YteoddjobpmmgeaaGreatT01
import Derived.Test.YteoddjobpmmgeaaGreatT03
import Derived.Test.YteoddjobpmmgeaaGreatT02
import Derived.Deep.RegionLaw
set_option linter.unusedVariables false
set_option linter.unusedSimpArgs false
namespace Go.Proofs.YteoddjobpmmgeaaGreat
section
open M (OpD NodeD Gr)
structure Tp where
  m : Nat
  T : Nat → Nat
  le : m ≤ 500
  byte : ∀ i, T i ≤ 255
def Tp.v (t : Tp) (i : Nat) : Nat := if i < t.m then t.T i else 0
def Tp.n (t : Tp) (i : Nat) : Nat := if i < t.m then i + 1 else i
def opd (k a : Int) : OpD := ⟨k, 0, fun _ => 0, a⟩
def sod (s : List Int) : OpD := ⟨1, s.length, lf s, 0⟩
def oneD (b : Int) : List Int := [b, b]
def leafD (k a : Int) : List OpD := [opd k a]
def setD (s : List Int) : List OpD := [sod s]
def unD (k : Int) (x : List OpD) : List OpD := x ++ [opd k 0]
def binD (k : Int) (x y : List OpD) : List OpD := x ++ y ++ [opd k 0]
def Lil (n : Nat) (l : List OpD) : Prop := l.length ≤ n ∧ ∀ x ∈ l, x.sl ≤ 16
theorem Lil.mono {n m : Nat} {l : List OpD} (h : Lil n l) (hm : n ≤ m) : Lil m l := ⟨Nat.le_trans h.1 hm, h.2⟩
def big : Nat → Nat
  | 0 => 1
  | d + 1 => 2 * big d + 5
end
section
open Go.RowKit
open M (OpD NodeD Gr)
structure RuleX (Q : Nat → Prop) (w : World) (b o : Nat) (d : NodeD) : Prop where
  c : RuleC Q w b o d
  cap : ∃ a c, w.cell? ⟨b, o + 1, none⟩ = some (.slice a d.bl c) ∧ d.bl ≤ c
structure LabX (Q : Nat → Prop) (w : World) (b o : Nat) (d : NodeD) : Prop where
  c : LabC Q w b o d
  cap : ∃ a c, w.cell? ⟨b, o + 2, none⟩ = some (.slice a d.bl c) ∧ d.bl ≤ c
def RulesX (Q : Nat → Prop) (w : World) (a : Option Addr) (n : Nat) (R : Nat → NodeD) : Prop :=
  n = 0 ∨ ∃ b off, a = some ⟨b, off, none⟩ ∧ Q b ∧ ∀ i, i < n → RuleX Q w b (off + i * 2) (R i)
def LabsX (Q : Nat → Prop) (w : World) (a : Option Addr) (n : Nat) (R : Nat → NodeD) : Prop :=
  n = 0 ∨ ∃ b off, a = some ⟨b, off, none⟩ ∧ Q b ∧ ∀ i, i < n → LabX Q w b (off + i * 3) (R i)
section
variable {Q Q' : Nat → Prop} {w w' : World}
theorem RuleX.on {b o : Nat} {d : NodeD} (h : RuleX Q w b o d) (hq : Q b) (t : Stay Q w w') : RuleX Q w' b o d :=
  ⟨h.c.on hq t, let ⟨a, c, h1, h2⟩ := h.cap; ⟨a, c, (t.cell hq).trans h1, h2⟩⟩
theorem RuleX.wide {b o : Nat} {d : NodeD} (h : RuleX Q w b o d) (t : ∀ b, Q b → Q' b) : RuleX Q' w b o d := ⟨h.c.wide t, h.cap⟩
theorem RuleX.later {b o : Nat} {d : NodeD} (h : RuleX Q w b o d) (t : Below w.heap.size w w') : RuleX Q w' b o d :=
  ⟨h.c.later t, let ⟨a, c, h1, h2⟩ := h.cap; ⟨a, c, cell_on h1 t, h2⟩⟩
theorem LabX.on {b o : Nat} {d : NodeD} (h : LabX Q w b o d) (hq : Q b) (t : Stay Q w w') : LabX Q w' b o d :=
  ⟨h.c.on hq t, let ⟨a, c, h1, h2⟩ := h.cap; ⟨a, c, (t.cell hq).trans h1, h2⟩⟩
theorem LabX.wide {b o : Nat} {d : NodeD} (h : LabX Q w b o d) (t : ∀ b, Q b → Q' b) : LabX Q' w b o d := ⟨h.c.wide t, h.cap⟩
theorem LabX.later {b o : Nat} {d : NodeD} (h : LabX Q w b o d) (t : Below w.heap.size w w') : LabX Q w' b o d :=
  ⟨h.c.later t, let ⟨a, c, h1, h2⟩ := h.cap; ⟨a, c, cell_on h1 t, h2⟩⟩
theorem RulesX.on {a : Option Addr} {n : Nat} {R : Nat → NodeD} (h : RulesX Q w a n R) (t : Stay Q w w') : RulesX Q w' a n R := by
  rcases h with h | ⟨b, off, e, hq, h⟩
  · exact .inl h
  · exact .inr ⟨b, off, e, hq, fun i hi => (h i hi).on hq t⟩
theorem RulesX.wide {a : Option Addr} {n : Nat} {R : Nat → NodeD} (h : RulesX Q w a n R) (t : ∀ b, Q b → Q' b) : RulesX Q' w a n R := by
  rcases h with h | ⟨b, off, e, hq, h⟩
  · exact .inl h
  · exact .inr ⟨b, off, e, t b hq, fun i hi => (h i hi).wide t⟩
theorem RulesX.later {a : Option Addr} {n : Nat} {R : Nat → NodeD} (h : RulesX Q w a n R) (t : Below w.heap.size w w') : RulesX Q w' a n R := by
  rcases h with h | ⟨b, off, e, hq, h⟩
  · exact .inl h
  · exact .inr ⟨b, off, e, hq, fun i hi => (h i hi).later t⟩
theorem LabsX.on {a : Option Addr} {n : Nat} {R : Nat → NodeD} (h : LabsX Q w a n R) (t : Stay Q w w') : LabsX Q w' a n R := by
  rcases h with h | ⟨b, off, e, hq, h⟩
  · exact .inl h
  · exact .inr ⟨b, off, e, hq, fun i hi => (h i hi).on hq t⟩
theorem LabsX.wide {a : Option Addr} {n : Nat} {R : Nat → NodeD} (h : LabsX Q w a n R) (t : ∀ b, Q b → Q' b) : LabsX Q' w a n R := by
  rcases h with h | ⟨b, off, e, hq, h⟩
  · exact .inl h
  · exact .inr ⟨b, off, e, t b hq, fun i hi => (h i hi).wide t⟩
theorem LabsX.later {a : Option Addr} {n : Nat} {R : Nat → NodeD} (h : LabsX Q w a n R) (t : Below w.heap.size w w') : LabsX Q w' a n R := by
  rcases h with h | ⟨b, off, e, hq, h⟩
  · exact .inl h
  · exact .inr ⟨b, off, e, hq, fun i hi => (h i hi).later t⟩
theorem RulesX.plain {a : Option Addr} {n : Nat} {R : Nat → NodeD} (h : RulesX Q w a n R) : RulesA Q w a n R := by
  rcases h with h | ⟨b, off, e, hq, h⟩
  · exact .inl h
  · exact .inr ⟨b, off, e, hq, fun i hi => (h i hi).c⟩
theorem LabsX.plain {a : Option Addr} {n : Nat} {R : Nat → NodeD} (h : LabsX Q w a n R) : LabsA Q w a n R := by
  rcases h with h | ⟨b, off, e, hq, h⟩
  · exact .inl h
  · exact .inr ⟨b, off, e, hq, fun i hi => (h i hi).c⟩
theorem RuleX.put {b o o' : Nat} {d : NodeD} {v0 v1 : Value} (h : RuleX Q w b o d) (hq : ¬ Q b) (ho : o + 1 < o' ∨ o' + 1 < o) : RuleX Q (put2 w b o' v0 v1) b o d :=
  ⟨h.c.put hq ho, let ⟨a, c, h1, h2⟩ := h.cap; ⟨a, c, (put2_other (by omega)).trans h1, h2⟩⟩
theorem LabX.put {b o o' : Nat} {d : NodeD} {v0 v1 v2 : Value} (h : LabX Q w b o d) (hq : ¬ Q b) (ho : o + 2 < o' ∨ o' + 2 < o) : LabX Q (put3 w b o' v0 v1 v2) b o d :=
  ⟨h.c.put hq ho, let ⟨a, c, h1, h2⟩ := h.cap; ⟨a, c, (put3_other (by omega)).trans h1, h2⟩⟩
end
structure GramX (Q : Nat → Prop) (w : World) (ra la : Option Addr) (g : Gr) : Prop where
  rules : RulesX Q w ra g.nr g.rule
  labs : LabsX Q w la g.nb g.lab
theorem GramX.plain {Q : Nat → Prop} {w : World} {ra la : Option Addr} {g : Gr} (h : GramX Q w ra la g) : GramA Q w ra la g := ⟨h.rules.plain, h.labs.plain⟩
theorem GramX.later {Q : Nat → Prop} {w w' : World} {ra la : Option Addr} {g : Gr} (h : GramX Q w ra la g) (t : Below w.heap.size w w') : GramX Q w' ra la g := ⟨h.rules.later t, h.labs.later t⟩
end
section
open Go.RowKit
open M (OpD NodeD Gr)
theorem addr_add (g j : Nat) : (⟨g, 0, none⟩ : Addr).add j = ⟨g, j, none⟩ := by
  by_cases h0 : j = 0
  · subst h0; simp [Addr.add]
  · simp [Addr.add, h0]
section
variable {α : Type} (f : α → List Value) (k : Nat) (hk : ∀ x, (f x).length = k)
include hk
theorem flat_len (l : List α) : (l.flatMap f).length = l.length * k := by
  induction l with
  | nil => simp
  | cons x l ih => rw [List.flatMap_cons, List.length_append, ih, hk, List.length_cons, Nat.add_mul]; omega
theorem flat_get : ∀ (l : List α) (i j : Nat) (x : α), l[i]? = some x → j < k → (l.flatMap f)[i * k + j]? = (f x)[j]?
  | [], i, j, x, h, _ => by simp at h
  | y :: l, 0, j, x, h, hj => by
    simp at h
    subst h
    rw [List.flatMap_cons, List.getElem?_append_left (by rw [hk]; omega)]
    simp
  | y :: l, i + 1, j, x, h, hj => by
    simp at h
    rw [List.flatMap_cons, List.getElem?_append_right (by rw [hk, Nat.add_mul]; omega), hk, show (i + 1) * k + j - k = i * k + j by rw [Nat.add_mul]; omega]
    exact flat_get l i j x h hj
theorem flat_set : ∀ (l : List α) (i j : Nat) (x y : α) (u : Value), l[i]? = some x → j < k → f y = (f x).set j u → (l.flatMap f).set (i * k + j) u = (l.set i y).flatMap f
  | [], i, j, x, y, u, h, _, _ => by simp at h
  | z :: l, 0, j, x, y, u, h, hj, e => by
    simp at h
    subst h
    rw [List.flatMap_cons, List.set_cons_zero, List.flatMap_cons, e, List.set_append_left _ _ (by rw [hk]; omega)]
    simp
  | z :: l, i + 1, j, x, y, u, h, hj, e => by
    simp at h
    rw [List.flatMap_cons, List.set_cons_succ, List.flatMap_cons, ← flat_set l i j x y u h hj e, List.set_append_right _ _ (by rw [hk, Nat.add_mul]; omega), hk, show (i + 1) * k + j - k = i * k + j by rw [Nat.add_mul]; omega]
end
theorem OwnC.put {Q : Nat → Prop} {w : World} {g n c sz : Nat} {cs : List Value} {j : Nat} (h : OwnC Q w (.slice (some ⟨g, 0, none⟩) n c) sz n cs) (hj : j < cs.length) (u : Value) : OwnC Q (w.setCell ⟨g, j, none⟩ u) (.slice (some ⟨g, 0, none⟩) n c) sz n (cs.set j u) := by
  rcases h with ⟨e, _⟩ | ⟨g', cap, e, hq, hl, hc, hcell, hw⟩
  · cases e
  cases e
  have hs : (w.cell? ⟨g, j, none⟩).isSome = true := by rw [hcell j hj, List.getElem?_eq_getElem hj]; rfl
  have hne : ∀ {i : Nat}, i ≠ j → (⟨g, j, none⟩ : Addr) ≠ ⟨g, i, none⟩ := fun h q => h (by injection q with _ q; exact q.symm)
  refine .inr ⟨g, c, rfl, hq, by rw [List.length_set, hl], hc, fun i hi => ?_, fun i hi => ⟨?_, ?_⟩⟩
  · rw [List.length_set] at hi
    by_cases e : i = j
    · subst e
      rw [World.cell?_setCell_same' _ _ _ hs, List.getElem?_set_self hi]
    · rw [World.cell?_setCell_other _ _ _ _ (hne e), List.getElem?_set_ne (by omega)]
      exact hcell i hi
  · by_cases e : i = j
    · subst e
      rw [World.cell?_setCell_same' _ _ _ hs]; rfl
    · rw [World.cell?_setCell_other _ _ _ _ (hne e)]
      exact (hw i hi).1
  · rw [World.frozen?_setCell]
    exact (hw i hi).2
theorem OwnC.at_ {Q : Nat → Prop} {w : World} {v : Value} {n sz : Nat} {cs : List Value} (h : OwnC Q w v sz n cs) (hn : 0 < n) : ∃ g c, v = .slice (some ⟨g, 0, none⟩) n c ∧ Q g ∧ n ≤ c ∧ (∀ j, j < cs.length → w.cell? ⟨g, j, none⟩ = cs[j]? ∧ w.frozen? ⟨g, j, none⟩ = false) := by
  rcases h with ⟨_, h, _⟩ | ⟨g, cap, e, hq, hl, hc, hcell, hw⟩
  · omega
  · refine ⟨g, cap, e, hq, hc, fun j hj => ⟨hcell j hj, (hw j ?_).2⟩⟩
    have : n * sz ≤ cap * sz := Nat.mul_le_mul_right _ hc
    omega
theorem own_src' {Q : Nat → Prop} {w : World} {a : Option Addr} {sz n c : Nat} {cs : List Value} {tx e : TypeId} (hk : Tryz.prog.underlying tx = some (.slice e)) (h : OwnC Q w (.slice a n c) sz n cs) (hone : ∀ u ∈ cs, u.oneCell' = true) : Src Tryz.prog sz tx (.slice a n c) n cs w := by
  rcases h with ⟨e, e1, e2⟩ | ⟨g, cap, e, hq, h3, h4, h5, h6⟩
  · obtain rfl : a = none := by injection e
    rw [e1, e2]
    exact Src.ofNil _ hk c
  · obtain rfl : a = some ⟨g, 0, none⟩ := by injection e
    refine Src.ofSlice (P := Tryz.prog) _ hk ⟨g, 0, none⟩ _ c cs h3 (fun j u hu => ?_) hone
    rw [addr_add, h5 j (List.getElem?_eq_some_iff.1 hu).1]
    exact hu
theorem Ints.srcD {Q : Nat → Prop} {k : IntKind} {w : World} {a : Option Addr} {n c : Nat} {S : Nat → Int} {tx e : TypeId} (hk : Tryz.prog.underlying tx = some (.slice e)) (h : Ints Q k w a n S) : Src Tryz.prog 1 tx (.slice a n c) n (intVs k S n) w := by
  cases a with
  | some x => exact h.src hk
  | none =>
    have h0 : n = 0 := by
      rcases h with h | ⟨_, _, e, _⟩
      · exact h
      · cases e
    subst h0
    exact Src.ofNil w hk c
theorem src_cells {w : World} {g : Nat} {us : List Value} {sz : Nat} {tx e : TypeId} (hk : Tryz.prog.underlying tx = some (.slice e)) (hl : us.length = 1 * sz) (h : ∀ j u, us[j]? = some u → w.cell? ⟨g, j, none⟩ = some u) (hone : ∀ u ∈ us, u.oneCell' = true) : Src Tryz.prog sz tx (.slice (some ⟨g, 0, none⟩) 1 1) 1 us w := by
  refine Src.ofSlice (P := Tryz.prog) _ hk ⟨g, 0, none⟩ 1 1 us hl (fun j u hu => ?_) hone
  rw [addr_add]
  exact h j u hu
structure OC where
  d : OpD
  a : Option Addr
  c : Nat
def ocv (x : OC) : List Value := [.int .i64 x.d.kind, .slice x.a x.d.sl x.c, .int .i64 x.d.arg]
theorem ocv_len (x : OC) : (ocv x).length = 3 := rfl
def cellsO (l : List OC) : List Value := l.flatMap ocv
theorem cellsO_len (l : List OC) : (cellsO l).length = l.length * 3 := flat_len ocv 3 ocv_len l
theorem cellsO_one (l : List OC) : ∀ u ∈ cellsO l, u.oneCell' = true := fun u hu => by
  obtain ⟨x, _, h⟩ := List.mem_flatMap.1 hu
  simp [ocv] at h
  rcases h with rfl | rfl | rfl <;> rfl
structure Bod (P : Nat → Prop) (L : Nat → Nat) (w : World) (v : Value) (l : List OC) : Prop where
  own : OwnC (fun b => P b ∧ L b = 0) w v 3 l.length (cellsO l)
  sets : ∀ i x, l[i]? = some x → OwnC (fun b => P b ∧ L b = i + 1) w (.slice x.a x.d.sl x.c) 1 x.d.sl (intVs .i64 x.d.set x.d.sl)
theorem Bod.on {P : Nat → Prop} {L : Nat → Nat} {w w' : World} {v : Value} {l : List OC} (h : Bod P L w v l) (t : Stay P w w') : Bod P L w' v l :=
  ⟨h.own.on (fun b hb => t b hb.1), fun i x hx => (h.sets i x hx).on (fun b hb => t b hb.1)⟩
theorem Bod.wide {P P' : Nat → Prop} {L L' : Nat → Nat} {w : World} {v : Value} {l : List OC} (h : Bod P L w v l) (t : ∀ b, P b → P' b ∧ L' b = L b) : Bod P' L' w v l :=
  ⟨ownC_wide h.own (fun b hb => ⟨(t b hb.1).1, (t b hb.1).2.trans hb.2⟩), fun i x hx => ownC_wide (h.sets i x hx) (fun b hb => ⟨(t b hb.1).1, (t b hb.1).2.trans hb.2⟩)⟩
def df (D : List OpD) : Nat → OpD := fun i => D.getD i default
theorem df_at {D : List OpD} {i : Nat} {x : OpD} (h : D[i]? = some x) : df D i = x := by unfold df; rw [List.getD_eq_getElem?_getD, h]; rfl
theorem df_map {l : List OC} {i : Nat} {x : OC} (h : l[i]? = some x) : df (l.map (·.d)) i = x.d := df_at (by rw [List.getElem?_map, h]; rfl)
theorem own_lists {Q : Nat → Prop} {k : IntKind} {w : World} {a : Option Addr} {n c : Nat} {S : Nat → Int} (h : OwnC Q w (.slice a n c) 1 n (intVs k S n)) : Ints Q k w a n S := by
  obtain ⟨a', c', e, h⟩ := h.ints
  cases e
  exact h
theorem Bod.ops {P : Nat → Prop} {L : Nat → Nat} {w : World} {a : Option Addr} {n c : Nat} {l : List OC} (h : Bod P L w (.slice a n c) l) : OpsA P w a l.length (df (l.map (·.d))) := by
  rcases h.own with ⟨_, e, _⟩ | ⟨g, cap, e, hq, hl, hc, hcell, hw⟩
  · exact .inl e
  · obtain rfl : a = some ⟨g, 0, none⟩ := by injection e
    refine .inr ⟨g, 0, rfl, hq.1, fun i hi => ?_⟩
    have hx : l[i]? = some l[i] := List.getElem?_eq_getElem hi
    have hg : ∀ j, j < 3 → w.cell? ⟨g, 0 + i * 3 + j, none⟩ = (ocv l[i])[j]? := fun j hj => by
      rw [show 0 + i * 3 + j = i * 3 + j by omega, hcell _ (by rw [cellsO_len]; omega)]
      exact flat_get ocv 3 ocv_len l i j _ hx hj
    rw [df_map hx]
    exact ⟨hg 0 (by omega), ⟨l[i].a, l[i].c, hg 1 (by omega), (own_lists (h.sets i _ hx)).wide (fun b hb => hb.1)⟩, hg 2 (by omega)⟩
def BodP (P : Nat → Prop) (w : World) (v : Value) (D : List OpD) : Prop := ∃ L l, Bod P L w v l ∧ l.map (·.d) = D
theorem BodP.on {P : Nat → Prop} {w w' : World} {v : Value} {D : List OpD} (h : BodP P w v D) (t : Stay P w w') : BodP P w' v D := by
  obtain ⟨L, l, h, e⟩ := h
  exact ⟨L, l, h.on t, e⟩
theorem BodP.wide {P P' : Nat → Prop} {w : World} {v : Value} {D : List OpD} (h : BodP P w v D) (t : ∀ b, P b → P' b) : BodP P' w v D := by
  obtain ⟨L, l, h, e⟩ := h
  exact ⟨L, l, h.wide (fun b hb => ⟨t b hb, rfl⟩), e⟩
theorem BodP.shape {P : Nat → Prop} {w : World} {v : Value} {D : List OpD} (h : BodP P w v D) : ∃ a c, v = .slice a D.length c ∧ D.length ≤ c := by
  obtain ⟨L, l, h, e⟩ := h
  have hn : l.length = D.length := by rw [← e, List.length_map]
  rw [← hn]
  rcases h.own with ⟨rfl, e, _⟩ | ⟨g, cap, rfl, hq, hl, hc, hcell, hw⟩
  · exact ⟨none, 0, by rw [e], by omega⟩
  · exact ⟨_, _, rfl, hc⟩
theorem BodP.ops {P : Nat → Prop} {w : World} {a : Option Addr} {n c : Nat} {D : List OpD} (h : BodP P w (.slice a n c) D) : OpsA P w a D.length (df D) := by
  obtain ⟨L, l, h, rfl⟩ := h
  rw [List.length_map]
  exact h.ops
theorem Lil.small {n : Nat} {D : List OpD} (h : Lil n D) (hn : n ≤ 1048576) : SmallB D.length (df D) := by
  refine ⟨Nat.le_trans h.1 hn, fun i hi => ?_⟩
  rw [df_at (List.getElem?_eq_getElem hi)]
  exact Nat.le_trans (h.2 _ (List.getElem_mem hi)) (by omega)
end
section
open Go.RowKit
open M (OpD NodeD Gr)
theorem appE_run {Q : Nat → Prop} {w : World} {v x : Value} {sz bytes n m : Nat} {cs news : List Value} {t tx e : TypeId} (ty : TypeId) (hE : ElemT t e sz bytes) (hown : OwnC Q w v sz n cs) (hs : Src Tryz.prog sz tx x m news w) (hlen : n + m ≤ 16777216) :
    ∃ v' w', (Builtin.append_ #[t, tx] ty #[v, x]).run Tryz.prog w = .ok v' w' ∧ OwnC (fun b => Q b ∨ w.heap.size ≤ b) w' v' sz (n + m) (cs ++ news) ∧ Grew (fun b => Q b) w w' ∧ w'.heap.size ≤ w.heap.size + 1 := by
  by_cases hm : v = .slice none 0 0 → 0 < m
  · exact appC_run' ty hE hown hs hlen hm
  · have hv : v = .slice none 0 0 := Classical.byContradiction (fun h => hm (fun q => absurd q h))
    obtain rfl : m = 0 := by
      by_cases h : m = 0
      · exact h
      · exact absurd (fun _ => by omega) hm
    have hl := hs.newsLen
    obtain rfl : news = [] := List.eq_nil_of_length_eq_zero (by omega)
    subst hv
    have h0 : n = 0 ∧ cs = [] := by
      rcases hown with ⟨_, h, h'⟩ | ⟨g, cap, h, _⟩
      · exact ⟨h, h'⟩
      · cases h
    obtain ⟨rfl, rfl⟩ := h0
    exact ⟨_, _, appN_run ty hE hs, .inl ⟨rfl, rfl, rfl⟩, ⟨rfl, rfl, rfl, Nat.le_refl _, fun _ _ _ => rfl, fun _ _ _ => rfl, fun _ _ h1 h2 => absurd h2 (by omega)⟩, by omega⟩
theorem appE {ops : Array Oper} {rest : List Oper} {o : Oper} {a : Act} {P' : Exit → Act → World → Prop} {w : World} (hgd : o.guard = none) (s x : Operand) (t tx : TypeId) (ho : o.op = .call { callee := .builtin .append, args := #[s, x], argTypes := #[t, tx] })
    {Q : Nat → Prop} {v y : Value} {e : TypeId} {sz bytes n m : Nat} {cs news : List Value} (hs : a.eval s = v) (hx : a.eval x = y) (hE : ElemT t e sz bytes) (hown : OwnC Q w v sz n cs) (hsrc : Src Tryz.prog sz tx y m news w) (hlen : n + m ≤ 16777216)
    (h : ∀ v' w', OwnC (fun b => Q b ∨ w.heap.size ≤ b) w' v' sz (n + m) (cs ++ news) → Grew (fun b => Q b) w w' → w'.heap.size ≤ w.heap.size + 1 → wpList Tryz.prog ops P' rest (a.put o.dst v') w') : wpList Tryz.prog ops P' (o :: rest) a w := by
  refine wpList_plain hgd fun K hK => ?_
  obtain ⟨v', w', hr, h1, h2, h3⟩ := appE_run o.type hE hown hsrc hlen
  unfold Oper.wp execOp
  simp only [ho, resolve, invoke, builtin, Sem.run_bind, Sem.run_pure, Result.andThen_ok, List.map_toArray, List.map_cons, List.map_nil, hs, hx, hr]
  exact hK _ _ (h v' w' h1 h2 h3)
theorem Grew.kept {Q : Nat → Prop} {w w' : World} (h : Grew Q w w') : Keep Q w w' := ⟨h.os, h.tape, h.output, h.size, h.block⟩
theorem Keep.bel {w w' : World} (h : Keep (fun _ => False) w w') : Below w.heap.size w w' := h.below (Nat.le_refl _) (fun _ _ q => q)
theorem Below.kept {w w' : World} (h : Below w.heap.size w w') : Keep (fun _ => False) w w' := ⟨h.os, h.tape, h.output, h.size, fun b hb _ => h.block b hb⟩
theorem keep_new {w W W' : World} {Q : Nat → Prop} (k : Keep (fun _ => False) w W) (g : Grew Q W W') (h : ∀ b, Q b → w.heap.size ≤ b) : Keep (fun _ => False) w W' :=
  ⟨g.os.trans k.os, g.tape.trans k.tape, g.output.trans k.output, Nat.le_trans k.size g.size, fun b hb q => (g.block b (Nat.lt_of_lt_of_le hb k.size) (fun hq => by have := h b hq; omega)).trans (k.block b hb q)⟩
theorem set_none (P : Nat → Prop) (w : World) (k a : Int) : OwnC P w (.slice none (opd k a).sl 0) 1 (opd k a).sl (intVs .i64 (opd k a).set (opd k a).sl) := .inl ⟨rfl, rfl, rfl⟩
theorem Bod.grow {w wr W2 W4 : World} {L L2 : Nat → Nat} {v v4 : Value} {l l2 : List OC} (h : Bod (New w wr) L wr v l) (hz : w.heap.size ≤ wr.heap.size) (k : Keep (fun _ => False) wr W2)
    (h2 : ∀ i x, l2[i]? = some x → OwnC (fun b => New wr W2 b ∧ L2 b = i + 1) W2 (.slice x.a x.d.sl x.c) 1 x.d.sl (intVs .i64 x.d.set x.d.sl))
    (own : OwnC (fun b => (New w wr b ∧ L b = 0) ∨ W2.heap.size ≤ b) W4 v4 3 (l.length + l2.length) (cellsO l ++ cellsO l2)) (g4 : Grew (fun b => New w wr b ∧ L b = 0) W2 W4) (s4 : W4.heap.size ≤ W2.heap.size + 1) (hl : 0 < l2.length) :
    Bod (New w W4) (fun b => if b < wr.heap.size then L b else if b < W2.heap.size then L2 b + l.length else 0) W4 v4 (l ++ l2) := by
  have z2 := k.size
  have z4 := g4.size
  refine ⟨?_, fun i x hx => ?_⟩
  · have hn : l.length + l2.length = (l ++ l2).length := by simp
    have hc : cellsO l ++ cellsO l2 = cellsO (l ++ l2) := by simp [cellsO]
    rw [← hn, ← hc]
    rcases own with ⟨_, q, _⟩ | ⟨g, cap, e, hq, h3, h4, h5, h6⟩
    · omega
    refine .inr ⟨g, cap, e, ?_, h3, h4, h5, h6⟩
    have hg : g < W4.heap.size := by
      have hlen : 0 < (cellsO l ++ cellsO l2).length := by rw [List.length_append, cellsO_len, cellsO_len]; omega
      have h := h5 0 hlen
      rw [List.getElem?_eq_getElem hlen] at h
      exact lt_of_cell h
    rcases hq with ⟨⟨q1, q2⟩, q3⟩ | q
    · exact ⟨⟨q1, hg⟩, by simp only [if_pos q2, q3]⟩
    · refine ⟨⟨by omega, hg⟩, ?_⟩
      simp only [if_neg (show ¬ g < wr.heap.size by omega), if_neg (show ¬ g < W2.heap.size by omega)]
  · by_cases e : i < l.length
    · rw [List.getElem?_append_left e] at hx
      refine ownC_wide (((h.sets i x hx).on (w' := W2) (fun b hb => k.block b hb.1.2 (fun q => q))).on (w' := W4) (fun b hb => g4.block b (by have := hb.1.2; omega) (fun q => by have := hb.2; have := q.2; omega))) (fun b hb => ⟨⟨hb.1.1, by have := hb.1.2; omega⟩, ?_⟩)
      simp only [if_pos hb.1.2, hb.2]
    · rw [List.getElem?_append_right (by omega)] at hx
      refine ownC_wide ((h2 _ x hx).on (w' := W4) (fun b hb => g4.block b hb.1.2 (fun q => by have := hb.1.1; have := q.1.2; omega))) (fun b hb => ⟨⟨by have := hb.1.1; omega, by have := hb.1.2; omega⟩, ?_⟩)
      have := hb.1.1
      simp only [if_neg (show ¬ b < wr.heap.size by omega), if_pos hb.1.2, hb.2]
      omega
def Mk (D : List OpD) (w : World) (e : Ending) (w' : World) : Prop := ∃ a c, e = .returned (.slice a D.length c) ∧ BodP (New w w') w' (.slice a D.length c) D ∧ Keep (fun _ => False) w w'
theorem mk_new {w W : World} {x : OC} (k : Keep (fun _ => False) w W) (hs : OwnC (fun b => New w W b) W (.slice x.a x.d.sl x.c) 1 x.d.sl (intVs .i64 x.d.set x.d.sl)) {t : TypeId} :
    Mk [x.d] w (.returned (.slice (some ⟨W.heap.size, 0, none⟩) 1 1)) (W.alloc (.cells #[.int .i64 x.d.kind, .slice x.a x.d.sl x.c, .int .i64 x.d.arg] t)) := by
  have z := k.size
  have hk : Keep (fun _ => False) W (W.alloc (.cells #[.int .i64 x.d.kind, .slice x.a x.d.sl x.c, .int .i64 x.d.arg] t)) := Keep.alloc _ _ _
  have hsz : (W.alloc (.cells #[.int .i64 x.d.kind, .slice x.a x.d.sl x.c, .int .i64 x.d.arg] t)).heap.size = W.heap.size + 1 := by simp
  have hb := World.alloc_heap_new W (.cells #[.int .i64 x.d.kind, .slice x.a x.d.sl x.c, .int .i64 x.d.arg] t)
  refine ⟨_, _, rfl, ⟨fun b => if b < W.heap.size then 1 else 0, [x], ⟨.inr ⟨W.heap.size, 1, rfl, ⟨⟨z, by omega⟩, by simp⟩, rfl, Nat.le_refl _, fun j hj => ?_, fun j hj => ⟨?_, ?_⟩⟩, fun i y hy => ?_⟩, rfl⟩, k.trans hk⟩
  · simp only [World.cell?, hb]
    match j, hj with
    | 0, _ => rfl
    | 1, _ => rfl
    | 2, _ => rfl
  · simp only [World.cell?, hb]
    match j, hj with
    | 0, _ => rfl
    | 1, _ => rfl
    | 2, _ => rfl
  · simp only [World.frozen?, hb]
    rfl
  · match i, hy with
    | 0, hy =>
      cases hy
      refine ownC_wide (hs.on (fun b hb => hk.block b hb.2 (fun q => q))) (fun b hb => ⟨⟨hb.1, by have := hb.2; omega⟩, by simp only [if_pos hb.2]⟩)
theorem appZ_run {w : World} {x : Value} {sz bytes m : Nat} {news : List Value} {t tx e : TypeId} (ty : TypeId) (hE : ElemT t e sz bytes) (hsz : 0 < sz) (hs : Src Tryz.prog sz tx x m news w) (hlen : m ≤ 16777216) :
    ∃ v' w', (Builtin.append_ #[t, tx] ty #[.slice none 0 0, x]).run Tryz.prog w = .ok v' w' ∧ OwnC (New w w') w' v' sz m news ∧ Keep (fun _ => False) w w' := by
  by_cases hm : 0 < m
  · obtain ⟨v', w', h1, h2, h3, h4⟩ := appE_run (Q := fun _ => False) (n := 0) (cs := []) ty hE (.inl ⟨rfl, rfl, rfl⟩) hs (by omega)
    rw [Nat.zero_add, List.nil_append] at h2
    refine ⟨v', w', h1, ?_, h3.kept⟩
    rcases h2 with q | ⟨g, cap, e, hq, q3, q4, q5, q6⟩
    · exact .inl q
    · refine .inr ⟨g, cap, e, ⟨?_, ?_⟩, q3, q4, q5, q6⟩
      · rcases hq with q | q
        · exact q.elim
        · exact q
      · have hl : 0 < news.length := by rw [hs.newsLen]; exact Nat.mul_pos hm hsz
        have h := q5 0 hl
        rw [List.getElem?_eq_getElem hl] at h
        exact lt_of_cell h
  · obtain rfl : m = 0 := by omega
    have hl := hs.newsLen
    obtain rfl : news = [] := List.eq_nil_of_length_eq_zero (by omega)
    exact ⟨_, _, appN_run ty hE hs, .inl ⟨rfl, rfl, rfl⟩, Keep.refl _ _⟩
theorem appZ {ops : Array Oper} {rest : List Oper} {o : Oper} {a : Act} {P' : Exit → Act → World → Prop} {w : World} (hgd : o.guard = none) (s x : Operand) (t tx : TypeId) (ho : o.op = .call { callee := .builtin .append, args := #[s, x], argTypes := #[t, tx] })
    {y : Value} {e : TypeId} {sz bytes m : Nat} {news : List Value} (hs : a.eval s = .slice none 0 0) (hx : a.eval x = y) (hE : ElemT t e sz bytes) (hsz : 0 < sz) (hsrc : Src Tryz.prog sz tx y m news w) (hlen : m ≤ 16777216)
    (h : ∀ v' w', OwnC (New w w') w' v' sz m news → Keep (fun _ => False) w w' → wpList Tryz.prog ops P' rest (a.put o.dst v') w') : wpList Tryz.prog ops P' (o :: rest) a w := by
  refine wpList_plain hgd fun K hK => ?_
  obtain ⟨v', w', hr, h1, h2⟩ := appZ_run o.type hE hsz hsrc hlen
  unfold Oper.wp execOp
  simp only [ho, resolve, invoke, builtin, Sem.run_bind, Sem.run_pure, Result.andThen_ok, List.map_toArray, List.map_cons, List.map_nil, hs, hx, hr]
  exact hK _ _ (h v' w' h1 h2)
theorem stepE {ops : Array Oper} {o : Oper} {a : Act} {w : World} {K : Act → World → Prop} {P' : Exit → Act → World → Prop} {E : Prop} (hgd : o.guard = none) (s x : Operand) (t tx : TypeId) (ho : o.op = .call { callee := .builtin .append, args := #[s, x], argTypes := #[t, tx] })
    {Q : Nat → Prop} {v y : Value} {e : TypeId} {sz bytes n m : Nat} {cs news : List Value} (hs : a.eval s = v) (hx : a.eval x = y) (hE : ElemT t e sz bytes) (hown : OwnC Q w v sz n cs) (hsrc : Src Tryz.prog sz tx y m news w) (hlen : n + m ≤ 16777216)
    (h : ∀ v' w', OwnC (fun b => Q b ∨ w.heap.size ≤ b) w' v' sz (n + m) (cs ++ news) → Grew (fun b => Q b) w w' → w'.heap.size ≤ w.heap.size + 1 → K (a.put o.dst v') w') : if Region.wanted o (yielded ops a.tmps) = true then Oper.wp Tryz.prog o a w K P' else E := by
  have hw : Region.wanted o (yielded ops a.tmps) = true := by simp [Region.wanted, hgd]
  rw [if_pos hw]
  obtain ⟨v', w', hr, h1, h2, h3⟩ := appE_run o.type hE hown hsrc hlen
  unfold Oper.wp execOp
  simp only [ho, resolve, invoke, builtin, Sem.run_bind, Sem.run_pure, Result.andThen_ok, List.map_toArray, List.map_cons, List.map_nil, hs, hx, hr]
  exact h v' w' h1 h2 h3
set_option maxHeartbeats 1000000 in
theorem l2leaf_any (k x : Int) (w : World) : Calls Tryz.prog 34 #[.int .i64 k, .int .i64 x] w (Mk (leafD k x) w) := by
  go_enter Tryz.func34, Tryz.ntmps34
  go_wp2
  go_ret
  exact mk_new (x := ⟨opd k x, none, 0⟩) (Keep.refl _ _) (set_none _ _ k x)
set_option maxHeartbeats 1000000 in
theorem l2set_any (Q : Nat → Prop) (a : Option Addr) (c : Nat) (s : List Int) (w : World) (h : Ints Q .i64 w a s.length (lf s)) (hn : s.length ≤ 1048576) :
    Calls Tryz.prog 57 #[.slice a s.length c] w (Mk (setD s) w) := by
  have HI : Hid (Ints Q .i64 w a s.length (lf s)) := h
  clear h
  generalize hm : s.length = m at *
  go_enter Tryz.func57, Tryz.ntmps57
  go_wp2_with (at_builtin; refine appZ rfl _ _ 40 40 rfl rfl rfl elem40 (by omega) (Ints.srcD Tryz.underlying40 HI.out) (by omega) ?_; intro v1 W1 hown hkeep; obtain ⟨a1, c1, rfl⟩ := own_shape hown; have HO : Hid (OwnC (New w W1) W1 (.slice a1 m c1) 1 m (intVs .i64 (lf s) m)) := hown; have HG : Hid (Keep (fun _ => False) w W1) := hkeep; clear hown hkeep)
  go_ret
  subst hm
  exact mk_new (x := ⟨sod s, a1, c1⟩) HG.out HO.out
set_option maxHeartbeats 1000000 in
theorem l2one_any (b : Int) (w : World) : Calls Tryz.prog 58 #[.int .i64 b] w fun e w' => e = .returned (.slice (some ⟨w.heap.size, 0, none⟩) 2 2) ∧ w' = w.alloc (.cells #[.int .i64 b, .int .i64 b] 3) := by
  go_enter Tryz.func58, Tryz.ntmps58
  go_wp2
  go_ret
  exact ⟨rfl, rfl⟩
theorem src_op {W : World} {g : Nat} {x : OC} {t : TypeId} (hg : W.heap[g]? = some (.cells #[.int .i64 x.d.kind, .slice x.a x.d.sl x.c, .int .i64 x.d.arg] t)) : Src Tryz.prog 3 48 (.slice (some ⟨g, 0, none⟩) 1 1) 1 (ocv x) W := by
  refine src_cells Tryz.underlying48 rfl (fun j u hu => ?_) (fun u hu => cellsO_one [x] u (by simpa [cellsO] using hu))
  simp only [World.cell?, hg]
  rw [← hu]
  simp [ocv]
theorem src_new {W : World} {g : Nat} {k x : Int} {t : TypeId} (hg : W.heap[g]? = some (.cells #[.int .i64 k, .slice none 0 0, .int .i64 x] t)) : Src Tryz.prog 3 48 (.slice (some ⟨g, 0, none⟩) 1 1) 1 (cellsO [⟨opd k x, none, 0⟩]) W :=
  src_op (x := ⟨opd k x, none, 0⟩) hg
def cpyI (w : World) (D : List OpD) (v i : Value) (wr : World) : Prop :=
  ∃ (k : Nat) (L : Nat → Nat) (l : List OC), k ≤ D.length ∧ i = .int .i64 (k : Int) ∧ Bod (New w wr) L wr v l ∧ l.map (·.d) = D.take k ∧ Keep (fun _ => False) w wr
theorem cpy_step {w wr W1 W4 : World} {D : List OpD} {d : OpD} {m n : Nat} {L : Nat → Nat} {l : List OC} {av a1 : Option Addr} {cv c1 : Nat} {v4 : Value} {cc : Array Value} {t : TypeId} (hb : Bod (New w wr) L wr (.slice av m cv) l) (hk : Keep (fun _ => False) w wr) (hg : Keep (fun _ => False) wr W1) (ho : OwnC (New wr W1) W1 (.slice a1 d.sl c1) 1 d.sl (intVs .i64 d.set d.sl)) (hl : l.map (·.d) = D.take m ∧ l.length = m ∧ D.length = n) (hd : D[m]? = some d)
    (own4 : OwnC (fun b => (New w wr b ∧ L b = 0) ∨ (W1.drew.alloc (.cells cc t)).heap.size ≤ b) W4 v4 3 (m + 1) (cellsO l ++ ocv ⟨d, a1, c1⟩)) (g4 : Grew (fun b => New w wr b ∧ L b = 0) (W1.drew.alloc (.cells cc t)) W4) (s4 : W4.heap.size ≤ (W1.drew.alloc (.cells cc t)).heap.size + 1) :
    cpyI w D v4 (.int .i64 ((m + 1 : Nat) : Int)) W4 := by
  obtain ⟨hl1, hl2, hl3⟩ := hl
  have hmn : m < D.length := (List.getElem?_eq_some_iff.1 hd).1
  have z1 := hg.size
  have k2 : Keep (fun _ => False) wr (W1.drew.alloc (.cells cc t)) := hg.trans ((Keep.drew _ W1).trans (Keep.alloc _ _ _))
  have e1 : (W1.drew.alloc (.cells cc t)).heap.size = W1.heap.size + 1 := by simp
  refine ⟨m + 1, _, l ++ [⟨d, a1, c1⟩], hmn, rfl, Bod.grow (L2 := fun _ => 1) hb hk.size k2 (fun i x hx => ?_) (by rw [hl2, show cellsO [(⟨d, a1, c1⟩ : OC)] = ocv ⟨d, a1, c1⟩ by simp [cellsO]]; exact own4) g4 s4 (by simp), ?_, ?_⟩
  · match i, hx with
    | 0, hx =>
      cases hx
      exact ownC_wide (ho.on (w' := W1.drew.alloc (.cells cc t)) (fun b hb => Below.heap_alloc W1.drew _ _ hb.2)) (fun b hb => ⟨⟨hb.1, by rw [e1]; have := hb.2; omega⟩, rfl⟩)
  · rw [List.map_append, hl1, List.take_add_one, hd]
    rfl
  · exact keep_new (hk.trans k2) g4 (fun b q => q.1.1)
set_option maxRecDepth 100000 in
set_option maxHeartbeats 4000000 in
theorem l2copy_any (Q : Nat → Prop) (a : Option Addr) (c : Nat) (D : List OpD) (w : World) (hB : OpsA Q w a D.length (df D)) (hs : SmallB D.length (df D)) :
    Calls Tryz.prog 76 #[.slice a D.length c] w (Mk D w) := by
  obtain ⟨hn, hsl⟩ := hs
  have HB : Hid (OpsA Q w a D.length (df D)) := hB
  have HSL : Hid (∀ i, i < D.length → (df D i).sl ≤ 1048576) := hsl
  clear hB hsl
  generalize hDn : D.length = n at *
  go_enter Tryz.func76, Tryz.ntmps76
  go_wp2
  go_loopw [3, 4] (fun v i wr => cpyI w D v i wr) (fun _ i _ => n - (intOf i).toNat)
  case atStart => exact ⟨0, fun _ => 0, [], Nat.zero_le _, rfl, ⟨.inl ⟨rfl, rfl, rfl⟩, fun i x hx => by simp at hx⟩, rfl, Keep.refl _ _⟩
  case round =>
    obtain ⟨m, L, l, hm, rfl, hbod, hl, hkeep⟩ := hrel
    rw [hDn] at hm
    have hlen : l.length = m := by rw [← List.length_map (f := (·.d)), hl, List.length_take, hDn]; omega
    by_cases hlt : m < n
    · have hB := HB.out.later hkeep.bel
      rcases hB with h0 | ⟨b, off, rfl, hq, hB⟩
      · omega
      obtain ⟨c0, ⟨sa, sc, c1, hs⟩, c2⟩ := hB m hlt
      have HS : Hid (Ints Q .i64 wr sa (df D m).sl (df D m).set) := hs
      have hsl := HSL.out m hlt
      have hlt' : (m : Int) < (n : Int) := by omega
      have ho := hbod.own
      rw [hlen] at ho
      obtain ⟨av, cv, rfl⟩ := own_shape ho
      clear ho
      have HBD : Hid (Bod (New w wr) L wr (.slice av m cv) l) := hbod
      have HK : Hid (Keep (fun _ => False) w wr) := hkeep
      have HL : Hid (l.map (·.d) = D.take m ∧ l.length = m ∧ D.length = n) := ⟨hl, hlen, hDn⟩
      have HDm : Hid (D[m]? = some (df D m)) := by
        show D[m]? = some (df D m)
        rw [List.getElem?_eq_getElem (by omega), df_at (List.getElem?_eq_getElem (by omega))]
      clear hB hs hbod hkeep hl hlen hDn
      generalize df D m = d at *
      go_wp2_with (at_builtin; refine appZ rfl _ _ 40 40 rfl rfl rfl elem40 (by omega) (Ints.srcD Tryz.underlying40 HS.out) (by omega) ?_; intro v1 W1 hown hkeep; obtain ⟨a1, c1', rfl⟩ := own_shape hown; have HO : Hid (OwnC (New wr W1) W1 (.slice a1 d.sl c1') 1 d.sl (intVs .i64 d.set d.sl)) := hown; have HG : Hid (Keep (fun _ => False) wr W1) := hkeep; clear hown hkeep)
      have bb : Hid (Below wr.heap.size wr W1) := HG.out.bel
      have d0 := cell_on c0 bb.out
      have d2 := cell_on c2 bb.out
      clear c0 c1 c2
      go_region_law (refine stepE rfl (.tmp 19) (.tmp 32) 48 48 rfl (v := .slice av m cv) (y := .slice (some ⟨W1.heap.size, 0, none⟩) 1 1) (by simp [Act.eval, Act.put]) (by simp [Act.eval, Act.put]) elem48 (Q := fun b => New w wr b ∧ L b = 0) (n := m) (cs := cellsO l) (news := ocv ⟨d, a1, c1'⟩) (by have h := HBD.out.own; rw [HL.out.2.1] at h; exact h.on (w' := W1.drew.alloc (.cells #[.int .i64 d.kind, .slice a1 d.sl c1', .int .i64 d.arg] 78)) (fun x hx => (bel_tr bb.out.drew (bel1 W1.drew _)).block x hx.1.2)) (src_op (W := W1.drew.alloc (.cells #[.int .i64 d.kind, .slice a1 d.sl c1', .int .i64 d.arg] 78)) (x := ⟨d, a1, c1'⟩) (World.alloc_heap_new W1.drew _)) (by omega) ?_
                     intro v4 W4 hown4 hgrew4 hsz4
                     have HE : Hid (cpyI w D v4 (.int .i64 ((m + 1 : Nat) : Int)) W4) := cpy_step HBD.out HK.out HG.out HO.out HL.out HDm.out hown4 hgrew4 hsz4
                     clear hown4 hgrew4 hsz4)
      all_goals go_goals
      all_goals go_wp2
      all_goals go_roundw
      all_goals first | exact HE.out | (simp [intOf]; omega)
    · obtain rfl : m = n := by omega
      go_wp2
      go_ret
      have ho := hbod.own
      rw [hlen, ← hDn] at ho
      obtain ⟨av, cv, rfl⟩ := own_shape ho
      rw [List.take_of_length_le (by omega)] at hl
      exact ⟨_, _, rfl, ⟨L, l, hbod, hl⟩, hkeep⟩
theorem no_sets {P : Nat → Prop} {L : Nat → Nat} {W : World} (k a : Int) : ∀ i x, [(⟨opd k a, none, 0⟩ : OC)][i]? = some x → OwnC (fun b => P b ∧ L b = i + 1) W (.slice x.a x.d.sl x.c) 1 x.d.sl (intVs .i64 x.d.set x.d.sl) := fun i x hx => by
  match i, hx with
  | 0, hx => cases hx; exact .inl ⟨rfl, rfl, rfl⟩
theorem mk_snoc {w wr W2 W4 : World} {L : Nat → Nat} {v v4 : Value} {l : List OC} {D : List OpD} {n : Nat} (k x : Int) (h : Bod (New w wr) L wr v l) (hk : Keep (fun _ => False) w wr) (k2 : Keep (fun _ => False) wr W2) (hD : l.map (·.d) = D) (hn : l.length = n)
    (own : OwnC (fun b => (New w wr b ∧ L b = 0) ∨ W2.heap.size ≤ b) W4 v4 3 (n + 1) (cellsO l ++ cellsO [⟨opd k x, none, 0⟩])) (g4 : Grew (fun b => New w wr b ∧ L b = 0) W2 W4) (s4 : W4.heap.size ≤ W2.heap.size + 1) : Mk (D ++ [opd k x]) w (.returned v4) W4 := by
  have hb := Bod.grow (L2 := fun _ => 0) h hk.size k2 (no_sets k x) (by rw [hn]; exact own) g4 s4 (by simp)
  have hlen : (D ++ [opd k x]).length = n + 1 := by rw [← hD, ← hn]; simp
  obtain ⟨a, c, rfl⟩ := own_shape own
  rw [← hlen] at hb ⊢
  exact ⟨a, c, rfl, ⟨_, _, hb, by rw [List.map_append, hD]; rfl⟩, keep_new (hk.trans k2) g4 (fun b q => q.1.1)⟩
set_option maxRecDepth 100000 in
set_option maxHeartbeats 2000000 in
theorem l2un_any (Q : Nat → Prop) (k : Int) (a : Option Addr) (c : Nat) (D : List OpD) (w : World) (hB : OpsA Q w a D.length (df D)) (hs : SmallB D.length (df D)) :
    Calls Tryz.prog 55 #[.int .i64 k, .slice a D.length c] w (Mk (unD k D) w) := by
  have hn := hs.1
  have HB : Hid (OpsA Q w a D.length (df D)) := hB
  have HS : Hid (SmallB D.length (df D)) := hs
  clear hB hs
  go_enter Tryz.func55, Tryz.ntmps55
  go_wp2_with fail
  refine (l2copy_any Q a c D w HB.out HS.out).mono ?_
  rintro e w1 ⟨a1, c1, rfl, ⟨L, l, hbod, hl⟩, hk⟩
  have hlen : l.length = D.length := by rw [← hl, List.length_map]
  have HBD : Hid (Bod (New w w1) L w1 (.slice a1 D.length c1) l) := hbod
  have HK : Hid (Keep (fun _ => False) w w1) := hk
  have HL : Hid (l.map (·.d) = D ∧ l.length = D.length) := ⟨hl, hlen⟩
  clear hbod hk hl hlen
  go_wp2_with (at_builtin; refine appE rfl _ _ 48 48 rfl rfl rfl elem48 (Q := fun b => New w w1 b ∧ L b = 0) (n := D.length) (cs := cellsO l) (news := cellsO [⟨opd k 0, none, 0⟩]) (by have h := HBD.out.own; rw [HL.out.2] at h; exact h.on (fun x hx => Below.heap_alloc w1 _ _ hx.1.2)) (src_new (World.alloc_heap_new w1 _)) (by omega) ?_; intro v4 W4 hown hgrew hsz; have HE : Hid (Mk (unD k D) w (.returned v4) W4) := mk_snoc k 0 HBD.out HK.out (Keep.alloc _ _ _) HL.out.1 HL.out.2 hown hgrew hsz; clear hown hgrew hsz)
  go_ret
  exact HE.out
set_option maxRecDepth 100000 in
set_option maxHeartbeats 2000000 in
theorem l2bin_any (Q Q' : Nat → Prop) (k : Int) (a a' : Option Addr) (c c' : Nat) (D D' : List OpD) (w : World) (hB : OpsA Q w a D.length (df D)) (hs : SmallB D.length (df D)) (hB' : OpsA Q' w a' D'.length (df D')) (hs' : SmallB D'.length (df D')) (hne : 0 < D'.length) :
    Calls Tryz.prog 56 #[.int .i64 k, .slice a D.length c, .slice a' D'.length c'] w (Mk (binD k D D') w) := by
  have hn := hs.1
  have hn' := hs'.1
  have HB : Hid (OpsA Q w a D.length (df D)) := hB
  have HS : Hid (SmallB D.length (df D)) := hs
  have HB' : Hid (OpsA Q' w a' D'.length (df D')) := hB'
  have HS' : Hid (SmallB D'.length (df D')) := hs'
  clear hB hs hB' hs'
  go_enter Tryz.func56, Tryz.ntmps56
  go_wp2_with fail
  refine (l2copy_any Q a c D w HB.out HS.out).mono ?_
  rintro e w1 ⟨a1, c1, rfl, ⟨L, l, hbod, hl⟩, hk⟩
  have hlen : l.length = D.length := by rw [← hl, List.length_map]
  have HBD : Hid (Bod (New w w1) L w1 (.slice a1 D.length c1) l) := hbod
  have HK : Hid (Keep (fun _ => False) w w1) := hk
  have HL : Hid (l.map (·.d) = D ∧ l.length = D.length) := ⟨hl, hlen⟩
  clear hbod hk hl hlen
  go_wp2_with fail
  refine (l2copy_any Q' a' c' D' w1 (HB'.out.later HK.out.bel) HS'.out).mono ?_
  rintro e w2 ⟨a2, c2, rfl, ⟨L2, l2, hbod, hl⟩, hk⟩
  have hlen : l2.length = D'.length := by rw [← hl, List.length_map]
  have HBD2 : Hid (Bod (New w1 w2) L2 w2 (.slice a2 D'.length c2) l2) := hbod
  have HK2 : Hid (Keep (fun _ => False) w1 w2) := hk
  have HL2 : Hid (l2.map (·.d) = D' ∧ l2.length = D'.length) := ⟨hl, hlen⟩
  clear hbod hk hl hlen
  go_wp2_with (first | (at_builtin; refine appE rfl _ _ 48 48 rfl rfl rfl elem48 (Q := fun b => New w w1 b ∧ L b = 0) (n := D.length) (cs := cellsO l) (m := D'.length) (news := cellsO l2) (by have h := HBD.out.own; rw [HL.out.2] at h; exact h.on (fun x hx => HK2.out.block x hx.1.2 (fun q => q))) (by have h := HBD2.out.own; rw [HL2.out.2] at h; exact own_src' Tryz.underlying48 h (cellsO_one _)) (by omega) ?_; intro v3 W3 hown hgrew hsz; obtain ⟨a3, c3, rfl⟩ := own_shape hown; have HB3 : Hid (∃ L3, Bod (New w W3) L3 W3 (.slice a3 (D.length + D'.length) c3) (l ++ l2)) := ⟨_, Bod.grow HBD.out HK.out.size HK2.out HBD2.out.sets (by rw [HL.out.2, HL2.out.2]; exact hown) hgrew hsz (by rw [HL2.out.2]; exact hne)⟩; have HK3 : Hid (Keep (fun _ => False) w W3) := keep_new (HK.out.trans HK2.out) hgrew (fun b q => q.1.1); clear hown hgrew hsz; obtain ⟨L3, hB3⟩ := HB3.out; have HBD3 : Hid (Bod (New w W3) L3 W3 (.slice a3 (D.length + D'.length) c3) (l ++ l2)) := hB3; clear HB3 hB3) | (at_builtin; refine appE rfl _ _ 48 48 rfl rfl rfl elem48 (Q := fun b => New w W3 b ∧ L3 b = 0) (n := D.length + D'.length) (cs := cellsO (l ++ l2)) (news := cellsO [⟨opd k 0, none, 0⟩]) (by have h := HBD3.out.own; rw [List.length_append, HL.out.2, HL2.out.2] at h; exact h.on (fun x hx => Below.heap_alloc W3 _ _ hx.1.2)) (src_new (World.alloc_heap_new W3 _)) (by omega) ?_; intro v4 W4 hown hgrew hsz; have HE : Hid (Mk (binD k D D') w (.returned v4) W4) := mk_snoc k 0 HBD3.out HK3.out (Keep.alloc _ _ _) (by rw [List.map_append, HL.out.1, HL2.out.1]) (by rw [List.length_append, HL.out.2, HL2.out.2]) hown hgrew hsz; clear hown hgrew hsz))
  go_ret
  exact HE.out
end
end Go.Proofs.YteoddjobpmmgeaaGreat
