import Derived.Test.YteoddjobpmmgeaaGreatT16
set_option linter.unusedVariables false
set_option linter.unusedSimpArgs false
namespace Go.Proofs.YteoddjobpmmgeaaGreat
section
open Go.RowKit
open M (OpD NodeD Gr)
structure NL where
  nm : List Int
  has : Bool
  bd : List OpD
instance : Inhabited NL := ⟨⟨[], false, []⟩⟩
structure GC where
  d : NL
  na : Option Addr
  nc : Nat
  ba : Option Addr
  bc : Nat
def ncR (x : GC) : List Value := [.slice x.na x.d.nm.length x.nc, .slice x.ba x.d.bd.length x.bc]
def ncL (x : GC) : List Value := [.slice x.na x.d.nm.length x.nc, .bool x.d.has, .slice x.ba x.d.bd.length x.bc]
theorem ncR_len (x : GC) : (ncR x).length = 2 := rfl
theorem ncL_len (x : GC) : (ncL x).length = 3 := rfl
theorem ncR_one (l : List GC) : ∀ u ∈ l.flatMap ncR, u.oneCell' = true := fun u hu => by
  obtain ⟨x, _, h⟩ := List.mem_flatMap.1 hu
  simp [ncR] at h
  rcases h with rfl | rfl <;> rfl
theorem ncL_one (l : List GC) : ∀ u ∈ l.flatMap ncL, u.oneCell' = true := fun u hu => by
  obtain ⟨x, _, h⟩ := List.mem_flatMap.1 hu
  simp [ncL] at h
  rcases h with rfl | rfl | rfl <;> rfl
def Tg (G : Nat → Nat) (w : World) (t : Nat) : Nat → Prop := fun b => b < w.heap.size ∧ G b = t
structure GrP (w0 : World) (G : Nat → Nat) (w : World) (rv lv : Value) (rs ls : List GC) : Prop where
  rules : OwnC (Tg G w 0) w rv 2 rs.length (rs.flatMap ncR)
  labs : OwnC (Tg G w 1) w lv 3 ls.length (ls.flatMap ncL)
  rn : ∀ x ∈ rs, Ints (Tg G w 2) .u8 w x.na x.d.nm.length (lf x.d.nm)
  ln : ∀ x ∈ ls, Ints (Tg G w 2) .u8 w x.na x.d.nm.length (lf x.d.nm)
  rb : ∀ i x, rs[i]? = some x → BodP (Tg G w (4 + 2 * i)) w (.slice x.ba x.d.bd.length x.bc) x.d.bd
  lb : ∀ i x, ls[i]? = some x → BodP (Tg G w (5 + 2 * i)) w (.slice x.ba x.d.bd.length x.bc) x.d.bd
  new : ∀ b, G b ≠ 3 → w0.heap.size ≤ b
theorem tg_stay {G : Nat → Nat} {w w' : World} (hs : ∀ b, b < w.heap.size → G b ≠ 3 → w'.heap[b]? = w.heap[b]?) {t : Nat} (ht : t ≠ 3) : Stay (Tg G w t) w w' := fun b hb => hs b hb.1 (by rw [hb.2]; exact ht)
theorem tg_wide {G G' : Nat → Nat} {w w' : World} (hz : w.heap.size ≤ w'.heap.size) (hG : ∀ b, b < w.heap.size → G' b = G b) (t : Nat) : ∀ b, Tg G w t b → Tg G' w' t b := fun b hb => ⟨by have := hb.1; omega, (hG b hb.1).trans hb.2⟩
theorem GrP.on {w0 w w' : World} {G G' : Nat → Nat} {rv lv : Value} {rs ls : List GC} (h : GrP w0 G w rv lv rs ls) (hz : w.heap.size ≤ w'.heap.size) (hs : ∀ b, b < w.heap.size → G b ≠ 3 → w'.heap[b]? = w.heap[b]?) (hG : ∀ b, b < w.heap.size → G' b = G b) (hn : ∀ b, G' b ≠ 3 → w0.heap.size ≤ b) : GrP w0 G' w' rv lv rs ls :=
  ⟨ownC_wide (h.rules.on (tg_stay hs (by omega))) (tg_wide hz hG 0), ownC_wide (h.labs.on (tg_stay hs (by omega))) (tg_wide hz hG 1),
    fun x hx => ((h.rn x hx).on (tg_stay hs (by omega))).wide (tg_wide hz hG 2), fun x hx => ((h.ln x hx).on (tg_stay hs (by omega))).wide (tg_wide hz hG 2),
    fun i x hx => ((h.rb i x hx).on (tg_stay hs (by omega))).wide (tg_wide hz hG _), fun i x hx => ((h.lb i x hx).on (tg_stay hs (by omega))).wide (tg_wide hz hG _), hn⟩
def tagN (G : Nat → Nat) (w : World) (t : Nat) : Nat → Nat := fun b => if b < w.heap.size then G b else t
theorem tagN_old {G : Nat → Nat} {w : World} {t b : Nat} (h : b < w.heap.size) : tagN G w t b = G b := if_pos h
theorem tagN_new {G : Nat → Nat} {w : World} {t b : Nat} (h : w.heap.size ≤ b) : tagN G w t b = t := if_neg (by omega)
theorem GrP.later {w0 w w' : World} {G : Nat → Nat} {rv lv : Value} {rs ls : List GC} {C : Nat → Prop} (h : GrP w0 G w rv lv rs ls) (k : Keep C w w') (hC : ∀ b, C b → G b = 3) (t : Nat) (hw : w0.heap.size ≤ w.heap.size) : GrP w0 (tagN G w t) w' rv lv rs ls :=
  h.on k.size (fun b hb hg => k.block b hb (fun q => hg (hC b q))) (fun b hb => tagN_old hb) (fun b hb => by
    by_cases e : b < w.heap.size
    · rw [tagN_old e] at hb; exact h.new b hb
    · omega)
theorem tg_new {G : Nat → Nat} {w w' : World} {t b : Nat} (h : New w w' b) : Tg (tagN G w t) w' t b := ⟨h.2, tagN_new h.1⟩
theorem GrP.addRule {w0 W2 W4 : World} {G : Nat → Nat} {rv v4 lv : Value} {rs ls : List GC} {x : GC} (h : GrP w0 G W2 rv lv rs ls) (hz : w0.heap.size ≤ W2.heap.size) (hn : Ints (Tg G W2 2) .u8 W2 x.na x.d.nm.length (lf x.d.nm)) (hb : BodP (Tg G W2 (4 + 2 * rs.length)) W2 (.slice x.ba x.d.bd.length x.bc) x.d.bd)
    (own : OwnC (fun b => Tg G W2 0 b ∨ W2.heap.size ≤ b) W4 v4 2 (rs.length + 1) (rs.flatMap ncR ++ ncR x)) (g4 : Grew (Tg G W2 0) W2 W4) : GrP w0 (tagN G W2 0) W4 v4 lv (rs ++ [x]) ls := by
  have z4 := g4.size
  have st : ∀ {t : Nat}, t ≠ 0 → Stay (Tg G W2 t) W2 W4 := fun {t} ht b hb => g4.block b hb.1 (fun q => ht (hb.2.symm.trans q.2))
  have wd : ∀ t b, Tg G W2 t b → Tg (tagN G W2 0) W4 t b := tg_wide z4 (fun b hb => tagN_old hb)
  refine ⟨?_, ownC_wide (h.labs.on (st (by omega))) (wd 1), fun y hy => ?_, fun y hy => ((h.ln y hy).on (st (by omega))).wide (wd 2), fun i y hy => ?_, fun i y hy => ((h.lb i y hy).on (st (by omega))).wide (wd _), fun b hb => ?_⟩
  · have e1 : (rs ++ [x]).length = rs.length + 1 := by simp
    have e2 : (rs ++ [x]).flatMap ncR = rs.flatMap ncR ++ ncR x := by simp
    rw [e1, e2]
    rcases own with ⟨_, q, _⟩ | ⟨g, cap, e, hq, h3, h4, h5, h6⟩
    · omega
    refine .inr ⟨g, cap, e, ?_, h3, h4, h5, h6⟩
    have hg : g < W4.heap.size := by
      have hlen : 0 < (rs.flatMap ncR ++ ncR x).length := by rw [h3]; omega
      have h := h5 0 hlen
      rw [List.getElem?_eq_getElem hlen] at h
      exact lt_of_cell h
    rcases hq with q | q
    · exact wd 0 g q
    · exact ⟨hg, tagN_new q⟩
  · rcases List.mem_append.1 hy with q | q
    · exact ((h.rn y q).on (st (by omega))).wide (wd 2)
    · obtain rfl := List.mem_singleton.1 q
      exact (hn.on (st (by omega))).wide (wd 2)
  · by_cases e : i < rs.length
    · rw [List.getElem?_append_left e] at hy
      exact ((h.rb i y hy).on (st (by omega))).wide (wd _)
    · rw [List.getElem?_append_right (by omega)] at hy
      have hi : i = rs.length := by
        have := (List.getElem?_eq_some_iff.1 hy).1
        simp at this
        omega
      subst hi
      simp at hy
      subst hy
      exact (hb.on (st (by omega))).wide (wd _)
  · by_cases e : b < W2.heap.size
    · rw [tagN_old e] at hb; exact h.new b hb
    · omega
theorem GrP.addLabel {w0 W2 W4 : World} {G : Nat → Nat} {rv v4 lv : Value} {rs ls : List GC} {x : GC} (h : GrP w0 G W2 rv lv rs ls) (hz : w0.heap.size ≤ W2.heap.size) (hn : Ints (Tg G W2 2) .u8 W2 x.na x.d.nm.length (lf x.d.nm)) (hb : BodP (Tg G W2 (5 + 2 * ls.length)) W2 (.slice x.ba x.d.bd.length x.bc) x.d.bd)
    (own : OwnC (fun b => Tg G W2 1 b ∨ W2.heap.size ≤ b) W4 v4 3 (ls.length + 1) (ls.flatMap ncL ++ ncL x)) (g4 : Grew (Tg G W2 1) W2 W4) : GrP w0 (tagN G W2 1) W4 rv v4 rs (ls ++ [x]) := by
  have z4 := g4.size
  have st : ∀ {t : Nat}, t ≠ 1 → Stay (Tg G W2 t) W2 W4 := fun {t} ht b hb => g4.block b hb.1 (fun q => ht (hb.2.symm.trans q.2))
  have wd : ∀ t b, Tg G W2 t b → Tg (tagN G W2 1) W4 t b := tg_wide z4 (fun b hb => tagN_old hb)
  refine ⟨ownC_wide (h.rules.on (st (by omega))) (wd 0), ?_, fun y hy => ((h.rn y hy).on (st (by omega))).wide (wd 2), fun y hy => ?_, fun i y hy => ((h.rb i y hy).on (st (by omega))).wide (wd _), fun i y hy => ?_, fun b hb => ?_⟩
  · have e1 : (ls ++ [x]).length = ls.length + 1 := by simp
    have e2 : (ls ++ [x]).flatMap ncL = ls.flatMap ncL ++ ncL x := by simp
    rw [e1, e2]
    rcases own with ⟨_, q, _⟩ | ⟨g, cap, e, hq, h3, h4, h5, h6⟩
    · omega
    refine .inr ⟨g, cap, e, ?_, h3, h4, h5, h6⟩
    have hg : g < W4.heap.size := by
      have hlen : 0 < (ls.flatMap ncL ++ ncL x).length := by rw [h3]; omega
      have h := h5 0 hlen
      rw [List.getElem?_eq_getElem hlen] at h
      exact lt_of_cell h
    rcases hq with q | q
    · exact wd 1 g q
    · exact ⟨hg, tagN_new q⟩
  · rcases List.mem_append.1 hy with q | q
    · exact ((h.ln y q).on (st (by omega))).wide (wd 2)
    · obtain rfl := List.mem_singleton.1 q
      exact (hn.on (st (by omega))).wide (wd 2)
  · by_cases e : i < ls.length
    · rw [List.getElem?_append_left e] at hy
      exact ((h.lb i y hy).on (st (by omega))).wide (wd _)
    · rw [List.getElem?_append_right (by omega)] at hy
      have hi : i = ls.length := by
        have := (List.getElem?_eq_some_iff.1 hy).1
        simp at this
        omega
      subst hi
      simp at hy
      subst hy
      exact (hb.on (st (by omega))).wide (wd _)
  · by_cases e : b < W2.heap.size
    · rw [tagN_old e] at hb; exact h.new b hb
    · omega
theorem getElem?_set' {α : Type} {l : List α} {i j : Nat} {x y z : α} (hx : l[i]? = some x) (h : (l.set i y)[j]? = some z) : (j = i ∧ z = y) ∨ (j ≠ i ∧ l[j]? = some z) := by
  have hi := (List.getElem?_eq_some_iff.1 hx).1
  by_cases e : j = i
  · subst e
    rw [List.getElem?_set_self hi] at h
    exact .inl ⟨rfl, (Option.some.inj h).symm⟩
  · rw [List.getElem?_set_ne (by omega)] at h
    exact .inr ⟨e, h⟩
theorem mem_set' {α : Type} {l : List α} {i : Nat} {y z : α} (h : z ∈ l.set i y) : z = y ∨ z ∈ l := (List.mem_or_eq_of_mem_set h).symm
theorem GrP.putR {w0 w : World} {G : Nat → Nat} {lv : Value} {rs ls : List GC} {g n c i j : Nat} {x y : GC} {u : Value} (h : GrP w0 G w (.slice (some ⟨g, 0, none⟩) n c) lv rs ls) (hx : rs[i]? = some x) (hj : j < 2) (hy : ncR y = (ncR x).set j u) (hg : Tg G w 0 g) (hn : Ints (Tg G w 2) .u8 w y.na y.d.nm.length (lf y.d.nm)) (hb : BodP (Tg G w (4 + 2 * i)) w (.slice y.ba y.d.bd.length y.bc) y.d.bd) :
    GrP w0 G (w.setCell ⟨g, i * 2 + j, none⟩ u) (.slice (some ⟨g, 0, none⟩) n c) lv (rs.set i y) ls := by
  have hi := (List.getElem?_eq_some_iff.1 hx).1
  have st : ∀ {t : Nat}, t ≠ 0 → Stay (Tg G w t) w (w.setCell ⟨g, i * 2 + j, none⟩ u) := fun {t} ht b hb => Below.heap_setCell _ _ _ _ (fun e => ht (by rw [← hb.2, e]; exact hg.2))
  have wd : ∀ t b, Tg G w t b → Tg G (w.setCell ⟨g, i * 2 + j, none⟩ u) t b := tg_wide (by rw [size_set]; exact Nat.le_refl _) (fun b hb => rfl)
  have hn0 : n = rs.length := by
    rcases h.rules with ⟨e, _⟩ | ⟨g', cap, e, _⟩
    · cases e
    · injection e
  refine ⟨?_, ownC_wide (h.labs.on (st (by omega))) (wd 1), fun z hz => ?_, fun z hz => ((h.ln z hz).on (st (by omega))).wide (wd 2), fun k z hz => ?_, fun k z hz => ((h.lb k z hz).on (st (by omega))).wide (wd _), h.new⟩
  · have hr := h.rules
    rw [hn0] at hr ⊢
    have := ownC_wide (OwnC.put hr (j := i * 2 + j) (by rw [flat_len ncR 2 ncR_len]; omega) u) (wd 0)
    rw [flat_set ncR 2 ncR_len rs i j x y u hx hj hy] at this
    rw [List.length_set]
    exact this
  · rcases mem_set' hz with rfl | q
    · exact (hn.on (st (by omega))).wide (wd 2)
    · exact ((h.rn z q).on (st (by omega))).wide (wd 2)
  · rcases getElem?_set' hx hz with ⟨rfl, rfl⟩ | ⟨_, q⟩
    · exact (hb.on (st (by omega))).wide (wd _)
    · exact ((h.rb k z q).on (st (by omega))).wide (wd _)
theorem GrP.putL {w0 w : World} {G : Nat → Nat} {rv : Value} {rs ls : List GC} {g n c i j : Nat} {x y : GC} {u : Value} (h : GrP w0 G w rv (.slice (some ⟨g, 0, none⟩) n c) rs ls) (hx : ls[i]? = some x) (hj : j < 3) (hy : ncL y = (ncL x).set j u) (hg : Tg G w 1 g) (hn : Ints (Tg G w 2) .u8 w y.na y.d.nm.length (lf y.d.nm)) (hb : BodP (Tg G w (5 + 2 * i)) w (.slice y.ba y.d.bd.length y.bc) y.d.bd) :
    GrP w0 G (w.setCell ⟨g, i * 3 + j, none⟩ u) rv (.slice (some ⟨g, 0, none⟩) n c) rs (ls.set i y) := by
  have hi := (List.getElem?_eq_some_iff.1 hx).1
  have st : ∀ {t : Nat}, t ≠ 1 → Stay (Tg G w t) w (w.setCell ⟨g, i * 3 + j, none⟩ u) := fun {t} ht b hb => Below.heap_setCell _ _ _ _ (fun e => ht (by rw [← hb.2, e]; exact hg.2))
  have wd : ∀ t b, Tg G w t b → Tg G (w.setCell ⟨g, i * 3 + j, none⟩ u) t b := tg_wide (by rw [size_set]; exact Nat.le_refl _) (fun b hb => rfl)
  have hn0 : n = ls.length := by
    rcases h.labs with ⟨e, _⟩ | ⟨g', cap, e, _⟩
    · cases e
    · injection e
  refine ⟨ownC_wide (h.rules.on (st (by omega))) (wd 0), ?_, fun z hz => ((h.rn z hz).on (st (by omega))).wide (wd 2), fun z hz => ?_, fun k z hz => ((h.rb k z hz).on (st (by omega))).wide (wd _), fun k z hz => ?_, h.new⟩
  · have hr := h.labs
    rw [hn0] at hr ⊢
    have := ownC_wide (OwnC.put hr (j := i * 3 + j) (by rw [flat_len ncL 3 ncL_len]; omega) u) (wd 1)
    rw [flat_set ncL 3 ncL_len ls i j x y u hx hj hy] at this
    rw [List.length_set]
    exact this
  · rcases mem_set' hz with rfl | q
    · exact (hn.on (st (by omega))).wide (wd 2)
    · exact ((h.ln z q).on (st (by omega))).wide (wd 2)
  · rcases getElem?_set' hx hz with ⟨rfl, rfl⟩ | ⟨_, q⟩
    · exact (hb.on (st (by omega))).wide (wd _)
    · exact ((h.lb k z q).on (st (by omega))).wide (wd _)
theorem GrP.ruleAt {w0 w : World} {G : Nat → Nat} {rv lv : Value} {rs ls : List GC} (h : GrP w0 G w rv lv rs ls) {i : Nat} {x : GC} (hx : rs[i]? = some x) : ∃ g c, rv = .slice (some ⟨g, 0, none⟩) rs.length c ∧ Tg G w 0 g ∧ rs.length ≤ c ∧ w.cell? ⟨g, i * 2, none⟩ = some (.slice x.na x.d.nm.length x.nc) ∧ w.cell? ⟨g, i * 2 + 1, none⟩ = some (.slice x.ba x.d.bd.length x.bc) ∧ w.frozen? ⟨g, i * 2, none⟩ = false ∧ w.frozen? ⟨g, i * 2 + 1, none⟩ = false := by
  have hi := (List.getElem?_eq_some_iff.1 hx).1
  obtain ⟨g, c, e, hq, hc, hcell⟩ := h.rules.at_ (by omega)
  rw [flat_len ncR 2 ncR_len] at hcell
  have h0 := hcell (i * 2) (by omega)
  have h1 := hcell (i * 2 + 1) (by omega)
  have f0 := flat_get ncR 2 ncR_len rs i 0 x hx (by omega)
  have f1 := flat_get ncR 2 ncR_len rs i 1 x hx (by omega)
  exact ⟨g, c, e, hq, hc, h0.1.trans f0, h1.1.trans f1, h0.2, h1.2⟩
theorem GrP.labelAt {w0 w : World} {G : Nat → Nat} {rv lv : Value} {rs ls : List GC} (h : GrP w0 G w rv lv rs ls) {i : Nat} {x : GC} (hx : ls[i]? = some x) : ∃ g c, lv = .slice (some ⟨g, 0, none⟩) ls.length c ∧ Tg G w 1 g ∧ ls.length ≤ c ∧ w.cell? ⟨g, i * 3, none⟩ = some (.slice x.na x.d.nm.length x.nc) ∧ w.cell? ⟨g, i * 3 + 1, none⟩ = some (.bool x.d.has) ∧ w.cell? ⟨g, i * 3 + 2, none⟩ = some (.slice x.ba x.d.bd.length x.bc) ∧ w.frozen? ⟨g, i * 3 + 1, none⟩ = false ∧ w.frozen? ⟨g, i * 3 + 2, none⟩ = false := by
  have hi := (List.getElem?_eq_some_iff.1 hx).1
  obtain ⟨g, c, e, hq, hc, hcell⟩ := h.labs.at_ (by omega)
  rw [flat_len ncL 3 ncL_len] at hcell
  have h0 := hcell (i * 3) (by omega)
  have h1 := hcell (i * 3 + 1) (by omega)
  have h2 := hcell (i * 3 + 2) (by omega)
  have f0 := flat_get ncL 3 ncL_len ls i 0 x hx (by omega)
  have f1 := flat_get ncL 3 ncL_len ls i 1 x hx (by omega)
  have f2 := flat_get ncL 3 ncL_len ls i 2 x hx (by omega)
  exact ⟨g, c, e, hq, hc, h0.1.trans f0, h1.1.trans f1, h2.1.trans f2, h1.2, h2.2⟩
def node (x : NL) : NodeD := ⟨x.nm.length, lf x.nm, x.has, x.bd.length, df x.bd⟩
def gram (rs ls : List NL) : Gr := ⟨rs.length, fun i => node (rs.getD i default), ls.length, fun i => node (ls.getD i default)⟩
theorem getD_map {l : List GC} {i : Nat} {x : GC} (h : l[i]? = some x) : (l.map (·.d)).getD i default = x.d := by rw [List.getD_eq_getElem?_getD, List.getElem?_map, h]; rfl
theorem GrP.gram {w0 w : World} {G : Nat → Nat} {rv lv : Value} {rs ls : List GC} (h : GrP w0 G w rv lv rs ls) : ∃ ra rc la lc, rv = .slice ra rs.length rc ∧ lv = .slice la ls.length lc ∧ GramX (New w0 w) w ra la (gram (rs.map (·.d)) (ls.map (·.d))) := by
  have wd : ∀ {t : Nat}, t ≠ 3 → ∀ b, Tg G w t b → New w0 w b := fun {t} ht b hb => ⟨h.new b (by rw [hb.2]; exact ht), hb.1⟩
  obtain ⟨ra, rc, er⟩ := own_shape h.rules
  obtain ⟨la, lc, el⟩ := own_shape h.labs
  refine ⟨ra, rc, la, lc, er, el, ⟨?_, ?_⟩⟩
  · by_cases h0 : rs.length = 0
    · exact .inl (by show (rs.map (·.d)).length = 0; rw [List.length_map]; exact h0)
    · obtain ⟨g, c, e, hq, hc, hcell⟩ := h.rules.at_ (by omega)
      rw [er] at e
      obtain rfl : ra = some ⟨g, 0, none⟩ := by injection e
      refine .inr ⟨g, 0, rfl, wd (by omega) g hq, fun i hi => ?_⟩
      have hi' : i < rs.length := by
        have : i < (rs.map (·.d)).length := hi
        rwa [List.length_map] at this
      have hx : rs[i]? = some rs[i] := List.getElem?_eq_getElem hi'
      have en : (Go.Proofs.YteoddjobpmmgeaaGreat.gram (rs.map (·.d)) (ls.map (·.d))).rule i = node rs[i].d := by show node _ = _; rw [getD_map hx]
      rw [en]
      obtain ⟨g', c', e', _, _, q0, q1, _, _⟩ := h.ruleAt hx
      rw [er] at e'
      obtain rfl : g' = g := by injection e' with e1; injection e1 with e1; injection e1 with e1; exact e1.symm
      have hb := h.rb i _ hx
      obtain ⟨_, cb, eb, hcb⟩ := hb.shape
      injection eb with _ _ eb
      rw [Nat.zero_add]
      exact ⟨⟨⟨_, _, q0, (h.rn _ (List.getElem_mem hi')).wide (wd (by omega))⟩, ⟨_, _, q1, hb.ops.wide (wd (by omega))⟩⟩, ⟨_, _, q1, by rw [eb]; exact hcb⟩⟩
  · by_cases h0 : ls.length = 0
    · exact .inl (by show (ls.map (·.d)).length = 0; rw [List.length_map]; exact h0)
    · obtain ⟨g, c, e, hq, hc, hcell⟩ := h.labs.at_ (by omega)
      rw [el] at e
      obtain rfl : la = some ⟨g, 0, none⟩ := by injection e
      refine .inr ⟨g, 0, rfl, wd (by omega) g hq, fun i hi => ?_⟩
      have hi' : i < ls.length := by
        have : i < (ls.map (·.d)).length := hi
        rwa [List.length_map] at this
      have hx : ls[i]? = some ls[i] := List.getElem?_eq_getElem hi'
      have en : (Go.Proofs.YteoddjobpmmgeaaGreat.gram (rs.map (·.d)) (ls.map (·.d))).lab i = node ls[i].d := by show node _ = _; rw [getD_map hx]
      rw [en]
      obtain ⟨g', c', e', _, _, q0, q1, q2, _, _⟩ := h.labelAt hx
      rw [el] at e'
      obtain rfl : g' = g := by injection e' with e1; injection e1 with e1; injection e1 with e1; exact e1.symm
      have hb := h.lb i _ hx
      obtain ⟨_, cb, eb, hcb⟩ := hb.shape
      injection eb with _ _ eb
      rw [Nat.zero_add]
      exact ⟨⟨⟨_, _, q0, (h.ln _ (List.getElem_mem hi')).wide (wd (by omega))⟩, q1, ⟨_, _, q2, hb.ops.wide (wd (by omega))⟩⟩, ⟨_, _, q2, by rw [eb]; exact hcb⟩⟩
theorem GrP.nil (w0 : World) : GrP w0 (fun _ => 3) w0 (.slice none 0 0) (.slice none 0 0) [] [] :=
  ⟨.inl ⟨rfl, rfl, rfl⟩, .inl ⟨rfl, rfl, rfl⟩, fun x hx => (by cases hx), fun x hx => (by cases hx), fun i x hx => (by simp at hx), fun i x hx => (by simp at hx), fun b hb => absurd rfl hb⟩
structure GVar (gb : Nat) (w0 : World) (G : Nat → Nat) (w : World) (rv lv : Value) (rs ls : List GC) : Prop where
  c0 : w.cell? ⟨gb, 0, none⟩ = some rv
  c1 : w.cell? ⟨gb, 1, none⟩ = some lv
  f0 : w.frozen? ⟨gb, 0, none⟩ = false
  f1 : w.frozen? ⟨gb, 1, none⟩ = false
  gr : GrP w0 G w rv lv rs ls
  tg : G gb = 3
  lt : gb < w.heap.size
  le : w0.heap.size ≤ w.heap.size
theorem GVar.tagR {gb R : Nat} {w0 w : World} {G : Nat → Nat} {rv lv : Value} {rs ls : List GC} (h : GVar gb w0 G w rv lv rs ls) (hR : R < w0.heap.size) : G R = 3 := by
  by_cases e : G R = 3
  · exact e
  · have := h.gr.new R e
    omega
theorem GVar.later {gb : Nat} {w0 w w' : World} {G : Nat → Nat} {rv lv : Value} {rs ls : List GC} {C : Nat → Prop} (h : GVar gb w0 G w rv lv rs ls) (k : Keep C w w') (hC : ∀ b, C b → b < w0.heap.size ∧ b ≠ gb) (t : Nat) : GVar gb w0 (tagN G w t) w' rv lv rs ls := by
  have hb := k.block gb h.lt (fun q => (hC gb q).2 rfl)
  exact ⟨(World.cell?_of_block (a := ⟨gb, 0, none⟩) hb).trans h.c0, (World.cell?_of_block (a := ⟨gb, 1, none⟩) hb).trans h.c1, (World.frozen?_of_block (a := ⟨gb, 0, none⟩) hb).trans h.f0, (World.frozen?_of_block (a := ⟨gb, 1, none⟩) hb).trans h.f1,
    h.gr.later k (fun b q => h.tagR (hC b q).1) t h.le, by rw [tagN_old h.lt]; exact h.tg, Nat.lt_of_lt_of_le h.lt k.size, Nat.le_trans h.le k.size⟩
theorem src_rule {W : World} {g : Nat} {x : GC} {t : TypeId} (hg : W.heap[g]? = some (.cells #[.slice x.na x.d.nm.length x.nc, .slice x.ba x.d.bd.length x.bc] t)) : Src Tryz.prog 2 23 (.slice (some ⟨g, 0, none⟩) 1 1) 1 (ncR x) W := by
  refine src_cells Tryz.underlying23 rfl (fun j u hu => ?_) (fun u hu => ncR_one [x] u (by simpa using hu))
  simp only [World.cell?, hg]
  rw [← hu]
  simp [ncR]
theorem src_label {W : World} {g : Nat} {x : GC} {t : TypeId} (hg : W.heap[g]? = some (.cells #[.slice x.na x.d.nm.length x.nc, .bool x.d.has, .slice x.ba x.d.bd.length x.bc] t)) : Src Tryz.prog 3 24 (.slice (some ⟨g, 0, none⟩) 1 1) 1 (ncL x) W := by
  refine src_cells Tryz.underlying24 rfl (fun j u hu => ?_) (fun u hu => ncL_one [x] u (by simpa using hu))
  simp only [World.cell?, hg]
  rw [← hu]
  simp [ncL]
theorem dg_gb {gb tt : Nat} {W0 W2 W4 : World} {G : Nat → Nat} {rv lv : Value} {rs ls : List GC} (h : GVar gb W0 G W2 rv lv rs ls) (htt : tt ≠ 3) (g4 : Grew (Tg G W2 tt) W2 W4) : W4.heap[gb]? = W2.heap[gb]? :=
  g4.block gb h.lt (fun q => by have := q.2; rw [h.tg] at this; omega)
theorem dg_cells {gb tt : Nat} {W0 W2 W4 : World} {G : Nat → Nat} {rv lv : Value} {rs ls : List GC} (h : GVar gb W0 G W2 rv lv rs ls) (htt : tt ≠ 3) (g4 : Grew (Tg G W2 tt) W2 W4) : W4.cell? ⟨gb, 0, none⟩ = some rv ∧ W4.cell? ⟨gb, 1, none⟩ = some lv ∧ W4.frozen? ⟨gb, 0, none⟩ = false ∧ W4.frozen? ⟨gb, 1, none⟩ = false := by
  have hbk := dg_gb h htt g4
  exact ⟨(World.cell?_of_block (a := ⟨gb, 0, none⟩) hbk).trans h.c0, (World.cell?_of_block (a := ⟨gb, 1, none⟩) hbk).trans h.c1, (World.frozen?_of_block (a := ⟨gb, 0, none⟩) hbk).trans h.f0, (World.frozen?_of_block (a := ⟨gb, 1, none⟩) hbk).trans h.f1⟩
theorem bod_nil (P : Nat → Prop) (w : World) : BodP P w (.slice none 0 0) [] := ⟨fun _ => 0, [], ⟨.inl ⟨rfl, rfl, rfl⟩, fun i x hx => by simp at hx⟩, rfl⟩
theorem GrP.base {w0 w1 w : World} {G : Nat → Nat} {rv lv : Value} {rs ls : List GC} (h : GrP w0 G w rv lv rs ls) (hz : w1.heap.size ≤ w0.heap.size) : GrP w1 G w rv lv rs ls :=
  ⟨h.rules, h.labs, h.rn, h.ln, h.rb, h.lb, fun b hb => Nat.le_trans hz (h.new b hb)⟩
theorem GrP.set {w0 w : World} {G : Nat → Nat} {rv lv u : Value} {rs ls : List GC} {rb o : Nat} (h : GrP w0 G w rv lv rs ls) (hg : G rb = 3) : GrP w0 G (w.setCell ⟨rb, o, none⟩ u) rv lv rs ls :=
  h.on (by rw [size_set]; exact Nat.le_refl _) (fun b hb hq => Below.heap_setCell _ _ _ _ (fun e => hq (by rw [show b = rb from e]; exact hg))) (fun b hb => rfl) h.new
theorem GrP.tag {w0 w : World} {G : Nat → Nat} {rv lv : Value} {rs ls : List GC} (h : GrP w0 G w rv lv rs ls) {b : Nat} (hb : b < w0.heap.size) : G b = 3 := by
  by_cases e : G b = 3
  · exact e
  · have := h.new b e
    omega
end
section
open Go.RowKit
open M (OpD NodeD Gr)
structure TokF (n : Nat) (x : Tok) : Prop where
  byt : BytL x.nm
  len : x.nm.length ≤ n
  set : x.set = [] ∨ ∃ M, x.set = rg M 256
  cls : x.kind = 91 → ∃ M, x.set = rg M 256
  name : x.kind = 110 → (∀ y ∈ x.nm, nameC y) ∧ ∃ y r, x.nm = y :: r ∧ M.Letter y
theorem nameF_ok (t : Tx) : ∀ (f j : Nat) (z : List Int), BytL z → (∀ y ∈ z, nameC y) → j ≤ t.n → BytL (nameF t f j z).1 ∧ (∀ y ∈ (nameF t f j z).1, nameC y) ∧ (nameF t f j z).1.length + j = z.length + (nameF t f j z).2 ∧ (∃ r, (nameF t f j z).1 = z ++ r)
  | 0, j, z, hb, hc, hj => ⟨hb, hc, rfl, [], by rw [List.append_nil]; rfl⟩
  | f + 1, j, z, hb, hc, hj => by
    rw [nameF]
    split
    · rename_i h
      have h1 : ∀ y ∈ z ++ [t.T j], nameC y := fun y hy => by
        rcases List.mem_append.1 hy with q | q
        · exact hc y q
        · rw [List.mem_singleton.1 q]; exact h.2
      have h2 : BytL (z ++ [t.T j]) := fun y hy => by
        rcases List.mem_append.1 hy with q | q
        · exact hb y q
        · rw [List.mem_singleton.1 q]; exact t.byt j
      obtain ⟨a1, a2, a3, r, a4⟩ := nameF_ok t f (j + 1) _ h2 h1 h.1
      refine ⟨a1, a2, ?_, t.T j :: r, by rw [a4]; simp⟩
      simp at a3
      omega
    · exact ⟨hb, hc, rfl, [], by rw [List.append_nil]⟩
theorem strF_ok (t : Tx) : ∀ (f j : Nat) (z : List Int) (r : List Int × Nat), BytL z → j ≤ t.n → strF t f j z = some r → BytL r.1 ∧ r.1.length + j ≤ z.length + r.2
  | 0, j, z, r, hb, hj, h => by rw [strF] at h; cases h
  | f + 1, j, z, r, hb, hj, h => by
    rw [strF] at h
    split at h
    · injection h with h; subst h; exact ⟨hb, by simp⟩
    · split at h
      · cases h
      · rename_i h0
        have hr := chr_rng t j false hj
        obtain ⟨a1, a2⟩ := strF_ok t f _ _ r (fun y hy => by
          rcases List.mem_append.1 hy with q | q
          · exact hb y q
          · rw [List.mem_singleton.1 q]; exact ⟨hr.1, hr.2.1⟩) hr.2.2 h
        refine ⟨a1, ?_⟩
        simp at a2
        omega
theorem nxt_ok (t : Tx) {i : Nat} (hi : i < t.n) : TokF t.n (nxtT t i).1 ∧ ((nxtT t i).1.kind ≠ 0 → (nxtT t i).1.nm.length + i ≤ (nxtT t i).2) ∧ ((nxtT t i).1.kind = 0 → (nxtT t i).1.nm = []) := by
  have e0 : BytL [] := fun y hy => by cases hy
  have bad : TokF t.n (⟨0, i, [], []⟩ : Tok) := ⟨e0, Nat.zero_le _, .inl rfl, (fun h => absurd h (by show (0 : Int) ≠ 91; omega)), (fun h => absurd h (by show (0 : Int) ≠ 110; omega))⟩
  unfold nxtT
  split
  · rename_i hl
    have h1 : t.n - i = (t.n - i - 1) + 1 := by omega
    rw [h1, nameF, if_pos ⟨hi, .inl hl⟩, List.nil_append]
    have hz : BytL [t.T i] := fun y hy => by rw [List.mem_singleton.1 hy]; exact t.byt i
    have hc : ∀ y ∈ [t.T i], nameC y := fun y hy => by rw [List.mem_singleton.1 hy]; exact .inl hl
    obtain ⟨a1, a2, a3, r, a4⟩ := nameF_ok t (t.n - i - 1) (i + 1) [t.T i] hz hc hi
    have hge := nameF_ge t (t.n - i - 1) (i + 1) [t.T i] hi
    simp only [List.length_singleton] at a3
    refine ⟨⟨a1, by first | (simp only; omega) | omega, .inl rfl, (fun h => absurd h (by show (110 : Int) ≠ 91; omega)), fun _ => ⟨a2, t.T i, r, by rw [a4]; rfl, hl⟩⟩, (fun _ => by first | (simp only; omega) | omega), (fun h => absurd h (by show (110 : Int) ≠ 0; omega))⟩
  · rename_i hl
    split
    · rename_i h2
      cases h : strT t i with
      | none => exact ⟨bad, (fun q => absurd rfl q), (fun _ => rfl)⟩
      | some q =>
        obtain ⟨z, j⟩ := q
        have hlt := strT_lt hi h
        obtain ⟨a1, a2⟩ := strF_ok t _ _ _ _ e0 hi h
        simp only [List.length_nil, Nat.zero_add] at a2 hlt
        simp only
        exact ⟨⟨a1, by first | (simp only; omega) | omega, .inl rfl, (fun h => absurd h (by show (34 : Int) ≠ 91; omega)), (fun h => absurd h (by show (34 : Int) ≠ 110; omega))⟩, (fun _ => by first | (simp only; omega) | omega), (fun h => absurd h (by show (34 : Int) ≠ 0; omega))⟩
    · split
      · cases h : clsT t i with
        | none => exact ⟨bad, (fun q => absurd rfl q), (fun _ => rfl)⟩
        | some q =>
          obtain ⟨z, j⟩ := q
          have hlt := clsT_lt hi h
          have hz : ∃ M, z = rg M 256 := by
            unfold clsT at h
            cases hc : clsF t (t.n + 2 - i) (begC t i) (fun _ => false) with
            | none => rw [hc] at h; cases h
            | some q => rw [hc] at h; injection h with h; injection h with h1 h2; exact ⟨_, h1.symm⟩
          simp only at hlt ⊢
          exact ⟨⟨e0, Nat.zero_le _, .inr hz, (fun _ => hz), (fun h => absurd h (by show (91 : Int) ≠ 110; omega))⟩, (fun _ => by simp; omega), (fun h => absurd h (by show (91 : Int) ≠ 0; omega))⟩
      · split
        · rename_i h2 h3 h4
          simp only
          refine ⟨⟨e0, Nat.zero_le _, .inl rfl, (fun h => absurd h h3), (fun h => ?_)⟩, (fun _ => by simp), (fun _ => by trivial)⟩
          have h : t.T i = 110 := h
          exact absurd h4 (by rw [h]; decide)
        · simp only
          exact ⟨bad, (fun q => absurd rfl q), (fun _ => by trivial)⟩
def wtT : List Tok → Nat
  | [] => 0
  | x :: r => x.nm.length + 1 + wtT r
theorem wtT_app (a b : List Tok) : wtT (a ++ b) = wtT a + wtT b := by
  induction a with
  | nil => simp [wtT]
  | cons x a ih => rw [List.cons_append, wtT, wtT, ih]; omega
theorem wtT_len (a : List Tok) : a.length ≤ wtT a := by
  induction a with
  | nil => simp [wtT]
  | cons x a ih => rw [wtT, List.length_cons]; omega
theorem toksF_ok (t : Tx) : ∀ f i, i ≤ t.n → (∀ x ∈ toksF t f i, TokF t.n x) ∧ wtT (toksF t f i) ≤ 2 * (t.n - i)
  | 0, i, hi => ⟨(fun x hx => by cases hx), Nat.zero_le _⟩
  | f + 1, i, hi => by
    rw [toksF]
    split
    · rename_i hlt
      obtain ⟨h1, h2, h3⟩ := nxt_ok t hlt
      split
      · rename_i h0
        refine ⟨fun x hx => by rw [List.mem_singleton.1 hx]; exact h1, ?_⟩
        have := h3 h0
        simp [wtT, this]
        omega
      · rename_i h0
        have hn := nxt_lt t hlt h0
        have hs := skip_ge t (nxtT t i).2
        have hsl := skip_le t hn.2
        obtain ⟨a1, a2⟩ := toksF_ok t f (skip t (nxtT t i).2) hsl
        have := h2 h0
        refine ⟨fun x hx => ?_, ?_⟩
        · rcases List.mem_cons.1 hx with rfl | q
          · exact h1
          · exact a1 x q
        · rw [wtT]
          omega
    · exact ⟨(fun x hx => by cases hx), Nat.zero_le _⟩
theorem toksT_ok (t : Tx) : (∀ x ∈ toksT t, TokF t.n x) ∧ wtT (toksT t) ≤ 2 * t.n := by
  have h := toksF_ok t (t.n + 1) (skip t 0) (skip_le t (Nat.zero_le _))
  exact ⟨h.1, Nat.le_trans h.2 (by omega)⟩
theorem TokF.ok {n : Nat} {x : Tok} (h : TokF n x) (hn : n ≤ 400000) : TokOK x := by
  refine ⟨h.byt, Nat.le_trans h.len hn, ?_⟩
  rcases h.set with q | ⟨M, q⟩
  · rw [q]; exact Nat.zero_le _
  · rw [q]; exact Nat.le_trans (rg_len M 256) (by omega)
theorem strOps_le (z : List Int) : (strOps z).length ≤ 2 * z.length + 1 := by
  cases z with
  | nil => simp [strOps, leafD]
  | cons x r => rw [strOps, strOps_len]; simp [setD]; omega
theorem ops_le (rs ls : List (List Int)) (e : PE) : (∀ l, l ≤ 3 → e.ok l → (e.ops rs ls).length + 1 ≤ 4 * wtT e.tk) ∧ (e.ok 5 → (e.ops rs ls).length ≤ 4 * wtT e.tk + 1) := by
  induction e with
  | ref t => exact ⟨fun l hl h => by simp [PE.ops, PE.tk, leafD, wtT]; omega, fun h => by simp [PE.ops, PE.tk, leafD, wtT]⟩
  | thr c t => exact ⟨fun l hl h => by simp [PE.ops, PE.tk, leafD, wtT]; omega, fun h => by simp [PE.ops, PE.tk, leafD, wtT]⟩
  | str t => have := strOps_le t.nm; exact ⟨fun l hl h => by simp [PE.ops, PE.tk, wtT]; omega, fun h => by simp [PE.ops, PE.tk, wtT]; omega⟩
  | cls t => exact ⟨fun l hl h => by simp [PE.ops, PE.tk, setD, wtT]; omega, fun h => by simp [PE.ops, PE.tk, setD, wtT]⟩
  | dot t => exact ⟨fun l hl h => by simp [PE.ops, PE.tk, setD, wtT]; omega, fun h => by simp [PE.ops, PE.tk, setD, wtT]⟩
  | grp o e c ih =>
    have key : e.ok 5 → (e.ops rs ls).length + 1 ≤ 4 * wtT (PE.grp o e c).tk := fun h => by have := ih.2 h; simp only [PE.tk, wtT, wtT_app]; omega
    exact ⟨fun l hl h => key h.2.2, fun h => by have := key h.2.2; simp only [PE.ops]; omega⟩
  | star e t ih =>
    have key : e.ok 0 → (unD 6 (e.ops rs ls)).length + 1 ≤ 4 * wtT (PE.star e t).tk := fun h => by have := ih.1 0 (by omega) h; simp only [PE.tk, wtT, wtT_app, unD, List.length_append, List.length_singleton]; omega
    exact ⟨fun l hl h => key h.2.2, fun h => by have := key h.2.2; simp only [PE.ops]; omega⟩
  | opt e t ih =>
    have key : e.ok 0 → (binD 5 (e.ops rs ls) (leafD 0 0)).length + 1 ≤ 4 * wtT (PE.opt e t).tk := fun h => by have := ih.1 0 (by omega) h; simp only [PE.tk, wtT, wtT_app, binD, leafD, List.length_append, List.length_singleton]; omega
    exact ⟨fun l hl h => key h.2.2, fun h => by have := key h.2.2; simp only [PE.ops]; omega⟩
  | not t e ih =>
    have key : e.ok 2 → (unD 7 (e.ops rs ls)).length + 1 ≤ 4 * wtT (PE.not t e).tk := fun h => by have := ih.1 2 (by omega) h; simp only [PE.tk, wtT, unD, List.length_append, List.length_singleton]; omega
    exact ⟨fun l hl h => key h.2.2, fun h => by have := key h.2.2; simp only [PE.ops]; omega⟩
  | amp t e ih =>
    have key : e.ok 2 → (unD 7 (unD 7 (e.ops rs ls))).length + 1 ≤ 4 * wtT (PE.amp t e).tk := fun h => by have := ih.1 2 (by omega) h; simp only [PE.tk, wtT, unD, List.length_append, List.length_singleton]; omega
    exact ⟨fun l hl h => key h.2.2, fun h => by have := key h.2.2; simp only [PE.ops]; omega⟩
  | emp => exact ⟨fun l hl h => absurd (show 4 ≤ l from h) (by omega), fun _ => by simp [PE.ops, leafD]⟩
  | seq a b iha ihb =>
    have key : a.ok 3 → b.ok 2 → (binD 4 (a.ops rs ls) (b.ops rs ls)).length + 1 ≤ 4 * wtT (PE.seq a b).tk := fun h h' => by have := iha.1 3 (by omega) h; have := ihb.1 2 (by omega) h'; simp only [PE.tk, wtT_app, binD, List.length_append, List.length_singleton]; omega
    exact ⟨fun l hl h => key h.2.1 h.2.2, fun h => by have := key h.2.1 h.2.2; simp only [PE.ops]; omega⟩
  | alt a t b iha ihb =>
    refine ⟨fun l hl h => absurd h.1 (by omega), fun h => ?_⟩
    have := iha.2 h.2.2.1
    have := ihb.2 (PE.ok_mono b (by omega) h.2.2.2)
    simp only [PE.ops, PE.tk, wtT, wtT_app, binD, List.length_append, List.length_singleton]
    omega
theorem strOps_sl : ∀ z, ∀ x ∈ strOps z, x.sl ≤ 2 := by
  have key : ∀ (r : List Int) (D : List OpD), (∀ x ∈ D, x.sl ≤ 2) → ∀ x ∈ r.foldl (fun out y => out ++ setD (oneD y) ++ [opd 4 0]) D, x.sl ≤ 2 := by
    intro r
    induction r with
    | nil => exact fun D h => h
    | cons y r ih =>
      intro D h
      rw [List.foldl_cons]
      refine ih _ (fun x hx => ?_)
      simp only [List.mem_append, List.mem_singleton] at hx
      rcases hx with (q | q) | q
      · exact h x q
      · rw [setD] at q; rw [List.mem_singleton.1 q]; exact Nat.le_refl _
      · rw [q]; exact Nat.zero_le _
  intro z
  cases z with
  | nil => intro x hx; rw [strOps, leafD] at hx; rw [List.mem_singleton.1 hx]; exact Nat.zero_le _
  | cons y r => exact key r _ (fun x hx => by rw [setD] at hx; rw [List.mem_singleton.1 hx]; exact Nat.le_refl _)
theorem ops_sl (rs ls : List (List Int)) (e : PE) (N : Nat) (hN : 2 ≤ N) (h : ∀ t ∈ e.tk, t.set.length ≤ N) : ∀ x ∈ e.ops rs ls, x.sl ≤ N := by
  have leaf : ∀ k a, ∀ x ∈ leafD k a, x.sl ≤ N := fun k a x hx => by rw [leafD] at hx; rw [List.mem_singleton.1 hx]; exact Nat.zero_le _
  have un : ∀ k D, (∀ x ∈ D, x.sl ≤ N) → ∀ x ∈ unD k D, x.sl ≤ N := fun k D h x hx => by
    rw [unD] at hx
    rcases List.mem_append.1 hx with q | q
    · exact h x q
    · rw [List.mem_singleton.1 q]; exact Nat.zero_le _
  have bin : ∀ k D D', (∀ x ∈ D, x.sl ≤ N) → (∀ x ∈ D', x.sl ≤ N) → ∀ x ∈ binD k D D', x.sl ≤ N := fun k D D' h h' x hx => by
    rw [binD] at hx
    simp only [List.mem_append, List.mem_singleton] at hx
    rcases hx with (q | q) | q
    · exact h x q
    · exact h' x q
    · rw [q]; exact Nat.zero_le _
  induction e with
  | ref t => exact leaf _ _
  | thr c t => exact leaf _ _
  | str t => exact fun x hx => Nat.le_trans (strOps_sl _ x hx) hN
  | cls t => intro x hx; rw [PE.ops, setD] at hx; rw [List.mem_singleton.1 hx]; exact h t (by simp [PE.tk])
  | dot t => intro x hx; rw [PE.ops, setD] at hx; rw [List.mem_singleton.1 hx]; exact hN
  | grp o e c ih => exact ih (fun t ht => h t (by simp [PE.tk, ht]))
  | star e t ih => exact un _ _ (ih (fun t ht => h t (by simp [PE.tk, ht])))
  | opt e t ih => exact bin _ _ _ (ih (fun t ht => h t (by simp [PE.tk, ht]))) (leaf _ _)
  | not t e ih => exact un _ _ (ih (fun t ht => h t (by simp [PE.tk, ht])))
  | amp t e ih => exact un _ _ (un _ _ (ih (fun t ht => h t (by simp [PE.tk, ht]))))
  | emp => exact leaf _ _
  | seq a b iha ihb => exact bin _ _ _ (iha (fun t ht => h t (by simp [PE.tk, ht]))) (ihb (fun t ht => h t (by simp [PE.tk, ht])))
  | alt a t b iha ihb => exact bin _ _ _ (iha (fun t ht => h t (by simp [PE.tk, ht]))) (ihb (fun t ht => h t (by simp [PE.tk, ht])))
def sameR (s q : Rl) : Bool := (s.car.isSome == q.car.isSome) && decide (s.name.nm = q.name.nm)
def dupF : List Rl → List Rl → Option Nat
  | _, [] => none
  | seen, q :: r => if seen.any (fun s => sameR s q) then some q.name.at_ else dupF (seen ++ [q]) r
def namesOf (qs : List Rl) : List (List Int) := (qs.filter (fun q => !q.car.isSome)).map (fun q => q.name.nm)
def refF (ns : List (List Int)) : Bool → List Tok → Option Nat
  | _, [] => none
  | pc, t :: r => if t.kind = 110 ∧ pc = false ∧ t.nm ∉ ns then some t.at_ else refF ns (t.kind == 94) r
def refsF (ns : List (List Int)) : List Rl → Option Nat
  | [] => none
  | q :: r => match refF ns false q.body.tk with | some p => some p | none => refsF ns r
def ruleNL (ns ls : List (List Int)) (q : Rl) : NL := ⟨q.name.nm, true, q.body.ops ns ls⟩
def rulesNL (ns ls : List (List Int)) (qs : List Rl) : List NL := (qs.filter (fun q => !q.car.isSome)).map (ruleNL ns ls)
def labNL (ns ls : List (List Int)) (qs : List Rl) (z : List Int) : NL :=
  match qs.find? (fun q => q.car.isSome && decide (q.name.nm = z)) with
  | some q => ⟨z, true, q.body.ops ns ls⟩
  | none => ⟨z, false, []⟩
def labsNL (ns ls : List (List Int)) (qs : List Rl) : List NL := ls.map (labNL ns ls qs)
def gramOf (ls : List (List Int)) (qs : List Rl) : Gr := gram (rulesNL (namesOf qs) ls qs) (labsNL (namesOf qs) ls qs)
def zeroG : Gr := gram [] []
def TailRes (n : Nat) (qs : List Rl) (code at_ : Int) (g : Gr) : Prop :=
  match dupF [] qs with
  | some p => code = 6 ∧ at_ = (p : Nat) ∧ g = zeroG
  | none =>
    match refsF (namesOf qs) qs with
    | some p => code = 6 ∧ at_ = (p : Nat) ∧ g = zeroG
    | none =>
      if namesOf qs = [] then code = 6 ∧ at_ = (n : Nat) ∧ g = zeroG
      else ∃ ls, Asc ls ∧ (∀ z, z ∈ ls ↔ z ∈ labsAll qs) ∧ ((M.Valid (gramOf ls qs) ∧ code = 0 ∧ at_ = 0 ∧ g = gramOf ls qs) ∨ (¬ M.Valid (gramOf ls qs) ∧ code = 7 ∧ at_ = 0 ∧ g = zeroG))
theorem dup_none : ∀ {seen qs : List Rl}, dupF seen qs = none → ∀ (i : Nat) (q : Rl), qs[i]? = some q → ∀ s ∈ seen ++ qs.take i, sameR s q = false
  | seen, [], _, i, q, hq => by simp at hq
  | seen, x :: r, h, i, q, hq => by
    rw [dupF] at h
    split at h
    · cases h
    · rename_i hn
      have hn' : ∀ s ∈ seen, sameR s x = false := fun s hs => by
        by_cases e : sameR s x = true
        · exact absurd (List.any_eq_true.2 ⟨s, hs, e⟩) hn
        · simpa using e
      cases i with
      | zero =>
        simp at hq
        subst hq
        simpa using hn'
      | succ i =>
        simp at hq
        have := dup_none h i q hq
        intro s hs
        refine this s ?_
        simp at hs ⊢
        exact hs
end
end Go.Proofs.YteoddjobpmmgeaaGreat
