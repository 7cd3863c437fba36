import Derived.Test.YteoddjobpmmgeaaGreatT17
set_option linter.unusedVariables false
set_option linter.unusedSimpArgs false
namespace Go.Proofs.YteoddjobpmmgeaaGreat
section
open Go.RowKit
open M (OpD NodeD Gr)
theorem elem24 : ElemT 24 50 3 56 := ⟨Tryz.underlying24, ⟨_, info50, rfl⟩, by omega⟩
structure GVo (gb : Nat) (w0 : World) (G : Nat → Nat) (w : World) (rv lv : Value) (rs ls : List GC) : Prop where
  v : GVar gb w0 G w rv lv rs ls
  old : ∀ b, b < gb → G b = 2
theorem GVo.new {gb : Nat} {w0 w : World} {G : Nat → Nat} {rv lv : Value} {rs ls : List GC} (h : GVo gb w0 G w rv lv rs ls) {t : Nat} (h2 : t ≠ 2) (h3 : t ≠ 3) {b : Nat} (hb : Tg G w t b) : gb + 1 ≤ b := by
  have h1 := hb.2
  by_cases e : b < gb
  · rw [h.old b e] at h1; exact absurd h1.symm h2
  · by_cases e2 : b = gb
    · subst e2; rw [h.v.tg] at h1; exact absurd h1.symm h3
    · omega
theorem GVo.later {gb : Nat} {w0 w w' : World} {G : Nat → Nat} {rv lv : Value} {rs ls : List GC} (h : GVo gb w0 G w rv lv rs ls) (k : Keep (fun _ => False) w w') (t : Nat) : GVo gb w0 (tagN G w t) w' rv lv rs ls :=
  ⟨h.v.later k (fun b q => q.elim) t, fun b hb => by rw [tagN_old (Nat.lt_trans hb h.v.lt)]; exact h.old b hb⟩
theorem GVo.putL {gb : Nat} {W0 W2 W4 : World} {G : Nat → Nat} {rv lv v4 : Value} {rs ls : List GC} {x : GC} (h : GVo gb W0 G W2 rv lv rs ls) (hn : Ints (Tg G W2 2) .u8 W2 x.na x.d.nm.length (lf x.d.nm)) (hb : BodP (Tg G W2 (5 + 2 * ls.length)) W2 (.slice x.ba x.d.bd.length x.bc) x.d.bd)
    (own : OwnC (fun b => Tg G W2 1 b ∨ W2.heap.size ≤ b) W4 v4 3 (ls.length + 1) (ls.flatMap ncL ++ ncL x)) (g4 : Grew (Tg G W2 1) W2 W4) : ∃ G', GVo gb W0 G' (W4.setCell ⟨gb, 1, none⟩ v4) rv v4 rs (ls ++ [x]) := by
  obtain ⟨c0, c1, f0, f1⟩ := dg_cells h.v (by omega) g4
  have hgr := h.v.gr.addLabel h.v.le hn hb own g4
  have hlt := h.v.lt
  have hle := h.v.le
  have z4 := g4.size
  have hg3 : tagN G W2 1 gb = 3 := by rw [tagN_old hlt]; exact h.v.tg
  refine ⟨tagN G W2 1, ⟨(World.cell?_setCell_other _ _ _ _ (by simp)).trans c0, World.cell?_setCell_same' _ _ _ (by rw [c1]; rfl), by rw [World.frozen?_setCell]; exact f0, by rw [World.frozen?_setCell]; exact f1,
    hgr.on (by rw [size_set]; exact Nat.le_refl _) (fun b hb hg => Below.heap_setCell _ _ _ _ (fun e => hg (by rw [show b = gb from e]; exact hg3))) (fun b hb => rfl) hgr.new, hg3, by rw [size_set]; omega, by rw [size_set]; omega⟩, fun b hb => by rw [tagN_old (by omega)]; exact h.old b hb⟩
theorem GVo.putR {gb : Nat} {W0 W2 W4 : World} {G : Nat → Nat} {rv lv v4 : Value} {rs ls : List GC} {x : GC} (h : GVo gb W0 G W2 rv lv rs ls) (hn : Ints (Tg G W2 2) .u8 W2 x.na x.d.nm.length (lf x.d.nm)) (hb : BodP (Tg G W2 (4 + 2 * rs.length)) W2 (.slice x.ba x.d.bd.length x.bc) x.d.bd)
    (own : OwnC (fun b => Tg G W2 0 b ∨ W2.heap.size ≤ b) W4 v4 2 (rs.length + 1) (rs.flatMap ncR ++ ncR x)) (g4 : Grew (Tg G W2 0) W2 W4) : ∃ G', GVo gb W0 G' (W4.setCell ⟨gb, 0, none⟩ v4) v4 lv (rs ++ [x]) ls := by
  obtain ⟨c0, c1, f0, f1⟩ := dg_cells h.v (by omega) g4
  have hgr := h.v.gr.addRule h.v.le hn hb own g4
  have hlt := h.v.lt
  have hle := h.v.le
  have z4 := g4.size
  have hg3 : tagN G W2 0 gb = 3 := by rw [tagN_old hlt]; exact h.v.tg
  refine ⟨tagN G W2 0, ⟨World.cell?_setCell_same' _ _ _ (by rw [c0]; rfl), (World.cell?_setCell_other _ _ _ _ (by simp)).trans c1, by rw [World.frozen?_setCell]; exact f0, by rw [World.frozen?_setCell]; exact f1,
    hgr.on (by rw [size_set]; exact Nat.le_refl _) (fun b hb hg => Below.heap_setCell _ _ _ _ (fun e => hg (by rw [show b = gb from e]; exact hg3))) (fun b hb => rfl) hgr.new, hg3, by rw [size_set]; omega, by rw [size_set]; omega⟩, fun b hb => by rw [tagN_old (by omega)]; exact h.old b hb⟩
theorem GVo.mid {gb : Nat} {W0 w W2 : World} {G : Nat → Nat} {rv lv v : Value} {rs ls : List GC} {D : List OpD} {z : List Int} {na : Option Addr} {N B : Nat → Prop} (tag : Nat) (h : GVo gb W0 G w rv lv rs ls) (k : Keep (fun _ => False) w W2) (hn : Ints N .u8 W2 na z.length (lf z)) (hb : BodP B W2 v D) (hN : ∀ b, N b → New w W2 b) (hB : ∀ b, B b → New w W2 b) (hNB : ∀ b, N b → ¬ B b) :
    ∃ G', GVo gb W0 G' W2 rv lv rs ls ∧ Ints (Tg G' W2 2) .u8 W2 na z.length (lf z) ∧ BodP (Tg G' W2 tag) W2 v D := by
  classical
  let G' : Nat → Nat := fun b => if b < w.heap.size then G b else if N b then 2 else if B b then tag else 3
  have old : ∀ b, b < w.heap.size → G' b = G b := fun b hb => if_pos hb
  have hbk := k.block gb h.v.lt (fun q => q)
  have zz := k.size
  have hlt := h.v.lt
  refine ⟨G', ⟨⟨(World.cell?_of_block (a := ⟨gb, 0, none⟩) hbk).trans h.v.c0, (World.cell?_of_block (a := ⟨gb, 1, none⟩) hbk).trans h.v.c1, (World.frozen?_of_block (a := ⟨gb, 0, none⟩) hbk).trans h.v.f0, (World.frozen?_of_block (a := ⟨gb, 1, none⟩) hbk).trans h.v.f1,
    h.v.gr.on zz (fun b hb hg => k.block b hb (fun q => q)) old (fun b hb => ?_), by rw [old gb hlt]; exact h.v.tg, by omega, Nat.le_trans h.v.le zz⟩, fun b hb => by rw [old b (by omega)]; exact h.old b hb⟩, hn.wide (fun b q => ⟨(hN b q).2, ?_⟩), hb.wide (fun b q => ⟨(hB b q).2, ?_⟩)⟩
  · by_cases e : b < w.heap.size
    · rw [old b e] at hb; exact h.v.gr.new b hb
    · have := h.v.le; omega
  · have h1 := (hN b q).1
    show (if b < w.heap.size then G b else if N b then 2 else if B b then tag else 3) = 2
    rw [if_neg (by omega), if_pos q]
  · have h1 := (hB b q).1
    show (if b < w.heap.size then G b else if N b then 2 else if B b then tag else 3) = tag
    rw [if_neg (by omega), if_neg (fun e => hNB b e q), if_pos q]
theorem GVo.start (w : World) {t : TypeId} (wE : World) (hE : wE.heap.size = 0) : GVo w.heap.size wE (fun b => if b = w.heap.size then 3 else 2) (w.alloc (.cells #[.slice none 0 0, .slice none 0 0] t)) (.slice none 0 0) (.slice none 0 0) [] [] := by
  have hb := World.alloc_heap_new w (.cells #[.slice none 0 0, .slice none 0 0] t)
  refine ⟨⟨?_, ?_, ?_, ?_, ⟨.inl ⟨rfl, rfl, rfl⟩, .inl ⟨rfl, rfl, rfl⟩, (fun x hx => by cases hx), (fun x hx => by cases hx), (fun i x hx => by simp at hx), (fun i x hx => by simp at hx), fun b hb => by omega⟩, by simp, by simp, by rw [hE]; exact Nat.zero_le _⟩, fun b hb => by simp; omega⟩
  · simp only [World.cell?, hb]; rfl
  · simp only [World.cell?, hb]; rfl
  · simp only [World.frozen?, hb]; rfl
  · simp only [World.frozen?, hb]; rfl
theorem GVo.keep {gb o t : Nat} {W0 W7 wr W2 W4 : World} {G : Nat → Nat} {rv lv v : Value} {rs ls : List GC} (h : GVo gb W0 G W2 rv lv rs ls) (h2 : t ≠ 2) (h3 : t ≠ 3) (hgb : W7.heap.size = gb + 1) (kr : Keep (fun b => b = gb) W7 wr) (k : Keep (fun _ => False) wr W2) (g4 : Grew (Tg G W2 t) W2 W4) : Keep (fun b => b = gb) W7 (W4.setCell ⟨gb, o, none⟩ v) := by
  have kk : Keep (fun b => b = gb) W7 W2 := kr.trans (k.mono (fun b q => q.elim))
  have k4 : Keep (fun b => b = gb) W7 W4 := ⟨g4.os.trans kk.os, g4.tape.trans kk.tape, g4.output.trans kk.output, Nat.le_trans kk.size g4.size, fun b hb hn => (g4.block b (Nat.lt_of_lt_of_le hb kk.size) (fun q => by have := h.new h2 h3 q; omega)).trans (kk.block b hb hn)⟩
  exact k4.trans (Keep.setCell _ _ _ rfl)
theorem GVo.setL {gb : Nat} {w0 w : World} {G : Nat → Nat} {rv : Value} {rs ls : List GC} {g n c i j : Nat} {x y : GC} {u : Value} (h : GVo gb w0 G w rv (.slice (some ⟨g, 0, none⟩) n c) rs ls) (hx : ls[i]? = some x) (hj : j < 3) (hy : ncL y = (ncL x).set j u) (hg : Tg G w 1 g) (hn : Ints (Tg G w 2) .u8 w y.na y.d.nm.length (lf y.d.nm)) (hb : BodP (Tg G w (5 + 2 * i)) w (.slice y.ba y.d.bd.length y.bc) y.d.bd) :
    GVo gb w0 G (w.setCell ⟨g, i * 3 + j, none⟩ u) rv (.slice (some ⟨g, 0, none⟩) n c) rs (ls.set i y) := by
  have hne : gb ≠ g := fun e => by have := hg.2; rw [← e, h.v.tg] at this; omega
  have hbk : (w.setCell ⟨g, i * 3 + j, none⟩ u).heap[gb]? = w.heap[gb]? := Below.heap_setCell _ _ _ _ (fun e => hne e)
  exact ⟨⟨(World.cell?_of_block (a := ⟨gb, 0, none⟩) hbk).trans h.v.c0, (World.cell?_of_block (a := ⟨gb, 1, none⟩) hbk).trans h.v.c1, (World.frozen?_of_block (a := ⟨gb, 0, none⟩) hbk).trans h.v.f0, (World.frozen?_of_block (a := ⟨gb, 1, none⟩) hbk).trans h.v.f1,
    h.v.gr.putL hx hj hy hg hn hb, h.v.tg, by rw [size_set]; exact h.v.lt, by rw [size_set]; exact h.v.le⟩, h.old⟩
theorem TksA.wide {Q Q' : Nat → Prop} {w : World} {a : Option Addr} {l : List Tok} (h : TksA Q w a l) (t : ∀ b, Q b → Q' b) : TksA Q' w a l := by
  rcases h with h | ⟨b, off, e, h⟩
  · exact .inl h
  · refine .inr ⟨b, off, e, fun i x hx => ?_⟩
    obtain ⟨h1, h2, ⟨a, c, h3, h4⟩, ⟨a', c', h5, h6⟩⟩ := h i x hx
    exact ⟨h1, h2, ⟨a, c, h3, h4.wide t⟩, ⟨a', c', h5, h6.wide t⟩⟩
theorem NmsA.wide {Q Q' : Nat → Prop} {w : World} {a : Option Addr} {ns : List (List Int)} (h : NmsA Q w a ns) (t : ∀ b, Q b → Q' b) : NmsA Q' w a ns := by
  rcases h with h | ⟨b, off, e, h⟩
  · exact .inl h
  · refine .inr ⟨b, off, e, fun i z hz => ?_⟩
    obtain ⟨na, nc, h1, h2⟩ := h i z hz
    exact ⟨na, nc, h1, h2.wide t⟩
theorem labNL_rule {ns ls : List (List Int)} {qs : List Rl} {q : Rl} (hq : q.car = none) (z : List Int) : labNL ns ls (qs ++ [q]) z = labNL ns ls qs z := by
  unfold labNL
  rw [List.find?_append]
  simp [hq]
theorem labNL_other {ns ls : List (List Int)} {qs : List Rl} {q : Rl} {z : List Int} (hz : q.name.nm ≠ z) : labNL ns ls (qs ++ [q]) z = labNL ns ls qs z := by
  unfold labNL
  rw [List.find?_append]
  simp [hz]
theorem labNL_this {ns ls : List (List Int)} {qs : List Rl} {q : Rl} (hc : q.car.isSome = true) (hn : ∀ s ∈ qs, sameR s q = false) : labNL ns ls (qs ++ [q]) q.name.nm = ⟨q.name.nm, true, q.body.ops ns ls⟩ := by
  unfold labNL
  have h0 : qs.find? (fun s => s.car.isSome && decide (s.name.nm = q.name.nm)) = none := by
    rw [List.find?_eq_none]
    intro s hs
    have := hn s hs
    unfold sameR at this
    rw [hc] at this
    simp at this ⊢
    intro h
    exact this h
  rw [List.find?_append, h0]
  simp [hc]
theorem asc_get : ∀ {l : List (List Int)}, Asc l → ∀ (i j : Nat) (z : List Int), l[i]? = some z → l[j]? = some z → i = j
  | [], _, i, j, z, hi, _ => by simp at hi
  | x :: r, h, 0, 0, z, _, _ => rfl
  | x :: r, h, 0, j + 1, z, hi, hj => by
    simp at hi hj
    subst hi
    exact absurd (h.1 _ (List.mem_of_getElem? hj)) (ltB_irr _)
  | x :: r, h, i + 1, 0, z, hi, hj => by
    simp at hi hj
    subst hj
    exact absurd (h.1 _ (List.mem_of_getElem? hi)) (ltB_irr _)
  | x :: r, h, i + 1, j + 1, z, hi, hj => by
    simp at hi hj
    rw [asc_get h.2 i j z hi hj]
theorem labsNL_rule {ns ls : List (List Int)} {qs : List Rl} {q : Rl} (hq : q.car = none) : labsNL ns ls (qs ++ [q]) = labsNL ns ls qs := List.map_congr_left (fun z _ => labNL_rule hq z)
theorem labsNL_set {ns ls : List (List Int)} {qs : List Rl} {q : Rl} {k : Nat} (ha : Asc ls) (hk : ls[k]? = some q.name.nm) (hc : q.car.isSome = true) (hn : ∀ s ∈ qs, sameR s q = false) : labsNL ns ls (qs ++ [q]) = (labsNL ns ls qs).set k ⟨q.name.nm, true, q.body.ops ns ls⟩ := by
  refine List.ext_getElem? (fun i => ?_)
  unfold labsNL
  have hkl : k < ls.length := (List.getElem?_eq_some_iff.1 hk).1
  by_cases e : i = k
  · subst e
    rw [List.getElem?_set_self (by rw [List.length_map]; exact hkl), List.getElem?_map, hk]
    show some _ = some _
    rw [labNL_this hc hn]
  · rw [List.getElem?_set_ne (by omega), List.getElem?_map, List.getElem?_map]
    cases hi : ls[i]? with
    | none => rfl
    | some z =>
      show some _ = some _
      rw [labNL_other (fun q => e (asc_get ha i k _ hi (by rw [hk, q])))]
theorem rulesNL_snoc {ns ls : List (List Int)} {qs : List Rl} {q : Rl} : rulesNL ns ls (qs ++ [q]) = rulesNL ns ls qs ++ (if q.car.isSome then [] else [ruleNL ns ls q]) := by
  unfold rulesNL
  rw [List.filter_append, List.map_append]
  cases hc : q.car <;> simp [hc]
theorem GVo.keepS {gb o t g : Nat} {W0 W7 wr : World} {G : Nat → Nat} {rv lv v : Value} {rs ls : List GC} (h : GVo gb W0 G wr rv lv rs ls) (h2 : t ≠ 2) (h3 : t ≠ 3) (hgb : W7.heap.size = gb + 1) (kr : Keep (fun b => b = gb) W7 wr) (hg : Tg G wr t g) : Keep (fun b => b = gb) W7 (wr.setCell ⟨g, o, none⟩ v) :=
  ⟨kr.os, kr.tape, kr.output, by rw [size_set]; exact kr.size, fun b hb hn => (Below.heap_setCell _ _ _ _ (fun e => by have e' : b = g := e; have := h.new h2 h3 hg; omega)).trans (kr.block b hb hn)⟩
theorem clnS {ops : Array Oper} {o : Oper} {a : Act} {W W1 : World} {K : Act → World → Prop} {P' : Exit → Act → World → Prop} {E : Prop} {Q : Nat → Prop} (hgd : o.guard = none) (s x : Operand) (ho : o.op = .call { callee := .builtin .append, args := #[s, x], argTypes := #[22, 22] })
    {ya : Option Addr} {yc : Nat} {z : List Int} (hW : W1 = W.alloc (.cells #[] 5)) (hs : a.eval s = .slice (some ⟨W.heap.size, 0, none⟩) 0 0) (hx : a.eval x = .slice ya z.length yc) (hI : Ints Q .u8 W ya z.length (lf z)) (hlen : z.length ≤ 1048576)
    (h : ∀ a' c' W3, Hid (Ints (New W W3) .u8 W3 a' z.length (lf z)) → Hid (Keep (fun _ => False) W W3) → K (a.put o.dst (.slice a' z.length c')) W3) : if Region.wanted o (yielded ops a.tmps) = true then Oper.wp Tryz.prog o a W1 K P' else E := by
  subst hW
  refine stepE hgd s x 22 22 ho hs hx elem22 (Q := fun b => b = W.heap.size) (n := 0) (cs := []) (m := z.length) (news := intVs .u8 (lf z) z.length) (.inr ⟨W.heap.size, 0, rfl, rfl, rfl, Nat.le_refl _, (fun j hj => by simp at hj), (fun j hj => by omega)⟩) (Ints.srcD Tryz.underlying22 (hI.later (bel1 W _))) (by omega) ?_
  intro v3 W3 hown hgrew hsz
  rw [Nat.zero_add, List.nil_append] at hown
  obtain ⟨a3, c3, rfl⟩ := own_shape hown
  have zz : W.heap.size + 1 ≤ W3.heap.size := by have := hgrew.size; simpa using this
  have hk : Keep (fun _ => False) W W3 := keep_new (Keep.alloc _ _ _) hgrew (fun b q => by rw [q]; exact Nat.le_refl _)
  refine h a3 c3 W3 ?_ hk
  by_cases hz : z.length = 0
  · exact .inl hz
  · have hi := own_lists hown
    rcases hi with q | ⟨g, off, e, hq, h5⟩
    · exact absurd q hz
    · refine .inr ⟨g, off, e, ⟨?_, lt_of_cell (h5 0 (by omega))⟩, h5⟩
      rcases hq with q | q
      · omega
      · have q : W.heap.size + 1 ≤ g := by simpa using q
        omega
theorem labNL_nm (ns ls : List (List Int)) (qs : List Rl) (z : List Int) : (labNL ns ls qs z).nm = z := by
  unfold labNL
  split <;> rfl
theorem GVo.recover {gb : Nat} {w0 w V : World} {G : Nat → Nat} {rv lv : Value} {rs cs : List GC} {k : Nat} {x : GC} {D : List OpD} {ba : Option Addr} {bc : Nat} (h : GVo gb w0 G w rv lv rs cs) (hk : Keep (fun _ => False) w V) (hb : BodP (New w V) V (.slice ba D.length bc) D) (hx : cs[k]? = some x) :
    ∃ g c, lv = .slice (some ⟨g, 0, none⟩) cs.length c ∧ gb ≠ g ∧ V.cell? ⟨g, k * 3 + 1, none⟩ = some (.bool x.d.has) ∧ V.frozen? ⟨g, k * 3 + 1, none⟩ = false ∧ V.cell? ⟨g, k * 3 + 2, none⟩ = some (.slice x.ba x.d.bd.length x.bc) ∧ V.frozen? ⟨g, k * 3 + 2, none⟩ = false ∧
      (∃ G', GVo gb w0 G' ((V.setCell ⟨g, k * 3 + 1, none⟩ (.bool true)).setCell ⟨g, k * 3 + 2, none⟩ (.slice ba D.length bc)) rv lv rs (cs.set k ⟨⟨x.d.nm, true, D⟩, x.na, x.nc, ba, bc⟩)) ∧
      ∀ W7, W7.heap.size = gb + 1 → Keep (fun b => b = gb) W7 w → Keep (fun b => b = gb) W7 ((V.setCell ⟨g, k * 3 + 1, none⟩ (.bool true)).setCell ⟨g, k * 3 + 2, none⟩ (.slice ba D.length bc)) := by
  have hV := h.later hk (5 + 2 * k)
  obtain ⟨g, c, e, hg, hc, q0, q1, q2, f1, f2⟩ := hV.v.gr.labelAt hx
  subst e
  have hne : gb ≠ g := fun e => by have := hg.2; rw [← e, hV.v.tg] at this; omega
  have hkl : k < cs.length := (List.getElem?_eq_some_iff.1 hx).1
  have hB : BodP (Tg (tagN G w (5 + 2 * k)) V (5 + 2 * k)) V (.slice ba D.length bc) D := hb.wide (fun b q => tg_new q)
  have hxm := List.mem_of_getElem? hx
  have s1 := hV.setL (j := 1) (y := ⟨⟨x.d.nm, true, x.d.bd⟩, x.na, x.nc, x.ba, x.bc⟩) (u := .bool true) hx (by omega) rfl hg (hV.v.gr.ln x hxm) (hV.v.gr.lb k x hx)
  have hg1 : Tg (tagN G w (5 + 2 * k)) (V.setCell ⟨g, k * 3 + 1, none⟩ (.bool true)) 1 g := ⟨by rw [size_set]; exact hg.1, hg.2⟩
  have hx1 : (cs.set k ⟨⟨x.d.nm, true, x.d.bd⟩, x.na, x.nc, x.ba, x.bc⟩)[k]? = some ⟨⟨x.d.nm, true, x.d.bd⟩, x.na, x.nc, x.ba, x.bc⟩ := List.getElem?_set_self hkl
  have hB1 : BodP (Tg (tagN G w (5 + 2 * k)) (V.setCell ⟨g, k * 3 + 1, none⟩ (.bool true)) (5 + 2 * k)) (V.setCell ⟨g, k * 3 + 1, none⟩ (.bool true)) (.slice ba D.length bc) D :=
    (hB.on (fun b q => Below.heap_setCell _ _ _ _ (fun e => by have e' : b = g := e; have h1 := q.2; have h2 := hg.2; rw [e', h2] at h1; omega))).wide (fun b q => ⟨by rw [size_set]; exact q.1, q.2⟩)
  have s2 := s1.setL (j := 2) (y := ⟨⟨x.d.nm, true, D⟩, x.na, x.nc, ba, bc⟩) (u := .slice ba D.length bc) hx1 (by omega) rfl hg1 (s1.v.gr.ln ⟨⟨x.d.nm, true, x.d.bd⟩, x.na, x.nc, x.ba, x.bc⟩ (List.mem_of_getElem? hx1)) hB1
  rw [List.set_set] at s2
  refine ⟨g, c, rfl, hne, q1, f1, q2, f2, ⟨_, s2⟩, fun W7 h7 k7 => ?_⟩
  exact s1.keepS (by omega) (by omega) h7 (hV.keepS (by omega) (by omega) h7 (k7.trans (hk.mono (fun b q => q.elim))) hg) hg1
theorem ints_not {w : World} {R : Nat} {Q Q' : Nat → Prop} {k : IntKind} {a : Option Addr} {n : Nat} {S : Nat → Int} (hR : w.heap[R]? = some (.cells #[.slice none 0 0, .slice none 0 0] 26)) (h : Ints Q k w a n S) (t : ∀ b, Q b → b ≠ R → Q' b) : Ints Q' k w a n S := by
  rcases h with h | ⟨b, off, e, hq, h⟩
  · exact .inl h
  · by_cases hn : n = 0
    · exact .inl hn
    · refine .inr ⟨b, off, e, t b hq (fun q => ?_), h⟩
      subst q
      have h0 := h 0 (by omega)
      simp only [World.cell?, hR] at h0
      match off, h0 with
      | 0, h0 => simp at h0
      | 1, h0 => simp at h0
      | off + 2, h0 => simp at h0
theorem GrP.untag {w0 w : World} {G : Nat → Nat} {rv lv : Value} {rs ls : List GC} {R : Nat} (h : GrP w0 G w rv lv rs ls) (hR : w.heap[R]? = some (.cells #[.slice none 0 0, .slice none 0 0] 26)) (hne : ∀ t, t ≠ 2 → t ≠ 3 → ¬ Tg G w t R) : GrP w0 (fun b => if b = R then 3 else G b) w rv lv rs ls := by
  have wd : ∀ t, t ≠ 2 → t ≠ 3 → ∀ b, Tg G w t b → Tg (fun b => if b = R then 3 else G b) w t b := fun t h2 h3 b hb => ⟨hb.1, by
    show (if b = R then 3 else G b) = t
    rw [if_neg (fun e : b = R => hne t h2 h3 (by rw [← e]; exact hb))]
    exact hb.2⟩
  have nm : ∀ {a : Option Addr} {n : Nat} {S : Nat → Int}, Ints (Tg G w 2) .u8 w a n S → Ints (Tg (fun b => if b = R then 3 else G b) w 2) .u8 w a n S := fun hi => ints_not hR hi (fun b hb e => ⟨hb.1, by
    show (if b = R then 3 else G b) = 2
    rw [if_neg e]
    exact hb.2⟩)
  exact ⟨ownC_wide h.rules (wd 0 (by omega) (by omega)), ownC_wide h.labs (wd 1 (by omega) (by omega)), fun x hx => nm (h.rn x hx), fun x hx => nm (h.ln x hx), fun i x hx => (h.rb i x hx).wide (wd _ (by omega) (by omega)), fun i x hx => (h.lb i x hx).wide (wd _ (by omega) (by omega)), fun b hb => h.new b (fun e => hb (by show (if b = R then 3 else G b) = 3; by_cases q : b = R; rw [if_pos q]; rw [if_neg q]; exact e))⟩
theorem GVo.answer {gb R : Nat} {w0 w W : World} {G : Nat → Nat} {rv lv u v : Value} {rs ls : List GC} (h : GVo gb w0 G w rv lv rs ls) (k : Keep (fun _ => False) w W) (hR : W.heap[R]? = some (.cells #[.slice none 0 0, .slice none 0 0] 26)) (hlt : R < gb) :
    ∃ ra rc la lc, rv = .slice ra rs.length rc ∧ lv = .slice la ls.length lc ∧ GramA (Of ((W.setCell ⟨R, 0, none⟩ u).setCell ⟨R, 1, none⟩ v)) ((W.setCell ⟨R, 0, none⟩ u).setCell ⟨R, 1, none⟩ v) ra la (gram (rs.map (·.d)) (ls.map (·.d))) := by
  have hW := h.later k 3
  have hu := hW.v.gr.untag hR (fun t h2 h3 q => by have := hW.new h2 h3 q; omega)
  have hs := (hu.set (rb := R) (o := 0) (u := u) (by simp)).set (rb := R) (o := 1) (u := v) (by simp)
  obtain ⟨ra, rc, la, lc, e1, e2, hx⟩ := hs.gram
  exact ⟨ra, rc, la, lc, e1, e2, hx.plain.rules.wide (fun b hb => hb.2), hx.plain.labs.wide (fun b hb => hb.2)⟩
def SmNL (x : NL) : Prop := x.nm.length ≤ 1048576 ∧ BytL x.nm ∧ SmD x.bd
theorem SmNL.node {x : NL} (h : SmNL x) : SmallN (node x) := ⟨h.1, h.2.1.byt, h.2.2.small⟩
theorem gram_small {rs ls : List NL} (h1 : rs.length ≤ 1048576) (h2 : ls.length ≤ 1048576) (hr : ∀ x ∈ rs, SmNL x) (hl : ∀ x ∈ ls, SmNL x) : SmallG (gram rs ls) := by
  have at_ : ∀ (l : List NL) (i : Nat), i < l.length → (∀ x ∈ l, SmNL x) → SmallN (node (l.getD i default)) := fun l i hi h => by
    rw [List.getD_eq_getElem?_getD, List.getElem?_eq_getElem hi]
    exact (h _ (List.getElem_mem hi)).node
  exact ⟨h1, h2, fun i hi => at_ rs i hi hr, fun i hi => at_ ls i hi hl⟩
theorem wtT_body {qs : List Rl} {q : Rl} (hq : q ∈ qs) : wtT q.body.tk ≤ wtT (qs.flatMap Rl.tk) := by
  obtain ⟨l1, l2, rfl⟩ := List.append_of_mem hq
  rw [List.flatMap_append, List.flatMap_cons, wtT_app, wtT_app]
  have e : wtT q.tk = wtT q.car.toList + (q.name.nm.length + 1 + (q.eq.nm.length + 1 + (wtT q.body.tk + wtT [q.semi]))) := by
    unfold Rl.tk
    rw [wtT_app, wtT, wtT, wtT_app]
  omega
theorem ops_smD {n : Nat} {qs : List Rl} {q : Rl} (ns ls : List (List Int)) (hq : q ∈ qs) (hok : q.ok) (hw : wtT (qs.flatMap Rl.tk) ≤ 8000) (hT : ∀ x ∈ q.body.tk, TokF n x) (hn : n ≤ 4000) : SmD (q.body.ops ns ls) := by
  have h1 := (ops_le ns ls q.body).2 hok.2.2.2.1
  have h2 := wtT_body hq
  exact ⟨by omega, ops_sl _ _ _ 1048576 (by omega) (fun x hx => ((hT x hx).ok (by omega)).2.2)⟩
theorem gramOf_small {n : Nat} {qs : List Rl} {ls : List (List Int)} (hok : ∀ q ∈ qs, q.ok) (hw : wtT (qs.flatMap Rl.tk) ≤ 8000) (hT : ∀ q ∈ qs, TokF n q.name ∧ ∀ x ∈ q.body.tk, TokF n x) (hn : n ≤ 4000) (hq : qs.length ≤ 8000) (hl : ls.length ≤ 8000) (hb : ∀ z ∈ ls, BytL z ∧ z.length ≤ 1000000) : SmallG (gramOf ls qs) := by
  refine gram_small ?_ ?_ (fun x hx => ?_) (fun x hx => ?_)
  · unfold rulesNL
    rw [List.length_map]
    have := List.length_filter_le (fun q : Rl => !q.car.isSome) qs
    omega
  · unfold labsNL
    rw [List.length_map]
    omega
  · unfold rulesNL at hx
    obtain ⟨q, hq, rfl⟩ := List.mem_map.1 hx
    have hqm := (List.mem_filter.1 hq).1
    exact ⟨by have := (hT q hqm).1.len; show q.name.nm.length ≤ _; omega, (hT q hqm).1.byt, ops_smD _ _ hqm (hok q hqm) hw (hT q hqm).2 hn⟩
  · unfold labsNL at hx
    obtain ⟨z, hz, rfl⟩ := List.mem_map.1 hx
    refine ⟨by rw [labNL_nm]; have := (hb z hz).2; omega, by rw [labNL_nm]; exact (hb z hz).1, ?_⟩
    unfold labNL
    split
    · rename_i q hq
      have hqm := List.mem_of_find?_eq_some hq
      exact ops_smD _ _ hqm (hok q hqm) hw (hT q hqm).2 hn
    · exact ⟨Nat.zero_le _, (fun x hx => by cases hx)⟩
end
end Go.Proofs.YteoddjobpmmgeaaGreat
