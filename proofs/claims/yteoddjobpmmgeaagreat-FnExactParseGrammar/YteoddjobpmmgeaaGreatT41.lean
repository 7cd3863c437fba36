import Derived.Test.YteoddjobpmmgeaaGreatT40
set_option linter.unusedVariables false
set_option linter.unusedSimpArgs false
namespace Go.Proofs.YteoddjobpmmgeaaGreat
section
open Go.RowKit
open M (OpD NodeD Gr)
structure BuH (qs : List Rl) (ls : List (List Int)) : Prop where
  nm : NmQ qs
  dup : dupF [] qs = none
  asc : Asc ls
  rec_ : ∀ q ∈ qs, q.car.isSome = true → q.name.nm ∈ ls
  refs : ∀ q ∈ qs, ∀ t ∈ q.body.refT, t.nm ∈ namesOf qs
  thrs : ∀ q ∈ qs, ∀ t ∈ q.body.thrT, t.nm ∈ ls
  ops : ∀ q ∈ qs, (q.body.ops (namesOf qs) ls).length ≤ 1000000
def BuIs (qs : List Rl) (ls : List (List Int)) (T : Nat → Prop) (w0 w : World) (e : Ending) (w' : World) : Prop :=
  ∃ G rv lv rs cs, e = .returned (.agg #[rv, lv]) ∧ BG w0 G w' rv lv rs cs ∧ rs.map (·.d) = rulesNL (namesOf qs) ls qs ∧ cs.map (·.d) = labsNL (namesOf qs) ls qs ∧ Keep T w w' ∧ ∀ b, G b ≠ 3 → T b ∨ w.heap.size ≤ b
def buK (qs : List Rl) (ls : List (List Int)) (dcs : List Value) (w w0 : World) (T : Nat → Prop) (b1 b2 : Nat) (v : Value) (wr : World) : Prop :=
  ∃ m G rv lv rs cs T', m ≤ qs.length ∧ v = .int .i64 (m : Nat) ∧ BuS w w0 T b1 b2 G wr rv lv rs cs ∧ rs.map (·.d) = rulesNL (namesOf qs) ls (qs.take m) ∧ cs.map (·.d) = labsNL (namesOf qs) ls (qs.take m) ∧ DfT wr (qs.drop m) (dcs.drop (m * 4)) T' ∧ (∀ b, T' b → T b ∧ G b = 3) ∧ w.heap.size + 5 ≤ wr.heap.size
structure BuM (qs : List Rl) (ls : List (List Int)) (dcs : List Value) (w w0 : World) (T : Nat → Prop) (b1 b2 m : Nat) (q : Rl) (G : Nat → Nat) (rv lv : Value) (rs cs : List GC) (W2 : World) (a2 : Option Addr) (c2 n2 : Nat) (S T2 : Nat → Prop) : Prop where
  st : BuS w w0 T b1 b2 G W2 rv lv rs cs
  bod : BodP S W2 (.slice a2 n2 c2) (q.body.ops (namesOf qs) ls)
  len : n2 = (q.body.ops (namesOf qs) ls).length
  free : ∀ b, S b → G b = 3 ∧ w0.heap.size ≤ b ∧ ((T b ∧ b < w.heap.size) ∨ w.heap.size + 5 ≤ b)
  lt : ∀ b, S b → b < W2.heap.size
  rules : rs.map (·.d) = rulesNL (namesOf qs) ls (qs.take m)
  labs : cs.map (·.d) = labsNL (namesOf qs) ls (qs.take m)
  rest : DfT W2 (qs.drop (m + 1)) (dcs.drop ((m + 1) * 4)) T2
  t2 : ∀ b, T2 b → (T b ∧ G b = 3) ∧ ¬ S b
  big : w.heap.size + 5 ≤ W2.heap.size
  new3 : ∀ b, W2.heap.size ≤ b → G b = 3
theorem bu_mid {qs : List Rl} {ls : List (List Int)} {dcs : List Value} {w w0 wr W W2 : World} {T P T2 : Nat → Prop} {b1 b2 m n2 c2 : Nat} {q : Rl} {G : Nat → Nat} {rv lv : Value} {rs cs : List GC} {a2 : Option Addr} {T' : Nat → Prop} (hTl : ∀ b, T b → b < w.heap.size ∧ w0.heap.size ≤ b) (hS : BuS w w0 T b1 b2 G wr rv lv rs cs) (hr : rs.map (·.d) = rulesNL (namesOf qs) ls (qs.take m)) (hl : cs.map (·.d) = labsNL (namesOf qs) ls (qs.take m)) (hT' : ∀ b, T' b → T b ∧ G b = 3) (h5 : w.heap.size + 5 ≤ wr.heap.size)
    (hd : DfT wr (qs.drop (m + 1)) (dcs.drop ((m + 1) * 4)) T2) (hP : ∀ b, P b → T' b) (hT2 : ∀ b, T2 b → T' b) (hdis : ∀ b, P b → ¬ T2 b) (ka : Keep (fun _ => False) wr W)
    (h : AoIs (fun _ => False) P (q.body.ops (namesOf qs) ls) W (.returned (.slice a2 n2 c2)) W2) : ∃ G2, BuM qs ls dcs w w0 T b1 b2 m q G2 rv lv rs cs W2 a2 c2 n2 (fun b => P b ∨ New W W2 b) T2 := by
  obtain ⟨a', c', n', e, hn, hB, hK⟩ := h
  injection e with e
  injection e with e1 e2 e3
  subst e1 e2 e3
  have z1 := ka.size
  have z2 := hK.size
  have hPl : ∀ b, P b → b < w.heap.size := fun b q => (hTl b (hT' b (hP b q)).1).1
  have S1 := (hS.fresh.step ka (fun b q => q.elim)).step hK (fun b q => by
    have q : P b := q.elim (fun z => z.elim) id
    have hb := hPl b q
    exact ⟨by rw [tagN_old (by omega)]; exact (hT' b (hP b q)).2, .inl ⟨(hT' b (hP b q)).1, hb⟩⟩)
  refine ⟨tagN G wr 3, ⟨S1, hB.wide (fun b q => q.elim (fun z => z.elim) id), hn, fun b q => ?_, fun b q => ?_, hr, hl, hd.on (fun b q => ?_) (fun b q => q), fun b q => ⟨⟨(hT' b (hT2 b q)).1, ?_⟩, ?_⟩, by omega, fun b hb => tagN_new (by omega)⟩⟩
  · rcases q with q | q
    · have hb := hPl b q
      exact ⟨by rw [tagN_old (by omega)]; exact (hT' b (hP b q)).2, (hTl b (hT' b (hP b q)).1).2, .inl ⟨(hT' b (hP b q)).1, hb⟩⟩
    · have := q.1
      have := hS.le
      exact ⟨tagN_new (by omega), by omega, .inr (by omega)⟩
  · rcases q with q | q
    · have := hPl b q; omega
    · exact q.2
  · have hb := (hTl b (hT' b (hT2 b q)).1).1
    exact (hK.block b (by omega) (fun z => z.elim (fun y => y) (fun y => hdis b y q))).trans (ka.block b (by omega) (fun y => y))
  · have hb := (hTl b (hT' b (hT2 b q)).1).1
    rw [tagN_old (by omega)]
    exact (hT' b (hT2 b q)).2
  · rintro (z | z)
    · exact hdis b z q
    · have hb := (hTl b (hT' b (hT2 b q)).1).1
      have := z.1
      omega
theorem bu_rec {qs : List Rl} {ls : List (List Int)} {dcs : List Value} {w w0 W2 : World} {T S T2 : Nat → Prop} {b1 b2 m n2 c2 : Nat} {q : Rl} {G : Nat → Nat} {rv lv : Value} {rs cs : List GC} {a2 : Option Addr} (hH : BuH qs ls) (hnd : ls.Nodup) (hq : qs[m]? = some q) (hc : q.car.isSome = true) (hTl : ∀ b, T b → b < w.heap.size ∧ w0.heap.size ≤ b) (h : BuM qs ls dcs w w0 T b1 b2 m q G rv lv rs cs W2 a2 c2 n2 S T2) :
    ∃ g c u1 u2, lv = .slice (some ⟨g, 0, none⟩) ls.length c ∧ ixN ls q.name.nm < ls.length ∧ W2.cell? ⟨g, ixN ls q.name.nm * 3 + 1, none⟩ = some u1 ∧ W2.frozen? ⟨g, ixN ls q.name.nm * 3 + 1, none⟩ = false ∧ W2.cell? ⟨g, ixN ls q.name.nm * 3 + 2, none⟩ = some u2 ∧ W2.frozen? ⟨g, ixN ls q.name.nm * 3 + 2, none⟩ = false ∧
      buK qs ls dcs w w0 T b1 b2 (.int .i64 ((m : Int) + 1)) ((W2.setCell ⟨g, ixN ls q.name.nm * 3 + 1, none⟩ (.bool true)).setCell ⟨g, ixN ls q.name.nm * 3 + 2, none⟩ (.slice a2 n2 c2)) := by
  have hqm := List.mem_of_getElem? hq
  obtain ⟨j, hj⟩ := List.getElem?_of_mem (hH.rec_ q hqm hc)
  rw [ixN_at hnd hj]
  have hjl := (List.getElem?_eq_some_iff.1 hj).1
  have hcl : cs.length = ls.length := by
    have := congrArg List.length h.labs
    unfold labsNL at this
    rw [List.length_map, List.length_map] at this
    exact this
  obtain ⟨x, hx⟩ : ∃ x, cs[j]? = some x := ⟨_, List.getElem?_eq_getElem (by omega)⟩
  have hxn : x.d.nm = q.name.nm := by
    have e := congrArg (fun l => l[j]?) h.labs
    simp only [List.getElem?_map, hx] at e
    unfold labsNL at e
    rw [List.getElem?_map, hj] at e
    have e : some x.d = some (labNL (namesOf qs) ls (qs.take m) q.name.nm) := e
    rw [Option.some.inj e, labNL_nm]
  have S1 := h.st.tag S (7 + 4 * j) h.free
  obtain ⟨g, c, e, hg, _, q0, q1, q2, f0, f1, f2⟩ := S1.bg.labelAt hx
  obtain ⟨g', c', e', _, _, _, _, S2⟩ := S1.setL (j := 1) (y := ⟨⟨x.d.nm, true, x.d.bd⟩, x.na, x.nc, x.ba, x.bc⟩) (u := .bool true) hx (by omega) rfl (S1.bg.ln j x hx) (S1.bg.lb j x hx)
  have eg : g = g' := by
    rw [e] at e'
    injection e' with e' _ _
    injection e' with e'
    injection e' with e'
  subst eg
  have hx1 : (cs.set j ⟨⟨x.d.nm, true, x.d.bd⟩, x.na, x.nc, x.ba, x.bc⟩)[j]? = some ⟨⟨x.d.nm, true, x.d.bd⟩, x.na, x.nc, x.ba, x.bc⟩ := List.getElem?_set_self (by omega)
  have hgS : ∀ b, S b → b ≠ g := fun b hb e => by
    have := hg.2
    rw [← e, tagS_in hb] at this
    omega
  have hB : BodP (Tg (tagS G S (7 + 4 * j)) (W2.setCell ⟨g, j * 3 + 1, none⟩ (.bool true)) (7 + 4 * j)) (W2.setCell ⟨g, j * 3 + 1, none⟩ (.bool true)) (.slice a2 n2 c2) (q.body.ops (namesOf qs) ls) :=
    (h.bod.on (fun b hb => Below.heap_setCell _ _ _ _ (hgS b hb))).wide (fun b hb => ⟨by rw [size_set]; exact h.lt b hb, tagS_in hb⟩)
  have hnm := S2.bg.ln j _ hx1
  obtain ⟨g', c', e', _, _, _, _, S3⟩ := S2.setL (j := 2) (y := ⟨⟨x.d.nm, true, q.body.ops (namesOf qs) ls⟩, x.na, x.nc, a2, c2⟩) (u := .slice a2 n2 c2) hx1 (by omega) (by rw [h.len]; rfl) hnm (by rw [← h.len]; exact hB)
  have eg : g = g' := by
    rw [e] at e'
    injection e' with e' _ _
    injection e' with e'
    injection e' with e'
  subst eg
  rw [List.set_set] at S3
  have hml := (List.getElem?_eq_some_iff.1 hq).1
  have hgT : ∀ b, T2 b → b ≠ g := fun b hb e => by
    have h1 := hg.2
    rw [← e, tagS_out (h.t2 b hb).2, (h.t2 b hb).1.2] at h1
    omega
  refine ⟨g, c, _, _, by rw [e, hcl], hjl, q1, f1, q2, f2, m + 1, _, rv, lv, rs, _, T2, hml, by simp, S3, ?_, ?_, ?_, fun b hb => ⟨(h.t2 b hb).1.1, by rw [tagS_out (h.t2 b hb).2]; exact (h.t2 b hb).1.2⟩, by simp only [size_set]; exact h.big⟩
  · rw [take_snoc hq, rulesNL_snoc, hc, h.rules]
    simp
  · rw [take_snoc hq, labsNL_set hH.asc hj hc (fun s hs => by
      have := dup_none hH.dup m q hq s (by simpa using hs)
      exact this), List.map_set, h.labs, hxn]
  · exact h.rest.on (fun b hb => (Below.heap_setCell _ _ _ _ (hgT b hb)).trans (Below.heap_setCell _ _ _ _ (hgT b hb))) (fun b hb => hb)
theorem bu_rule {qs : List Rl} {ls : List (List Int)} {dcs : List Value} {w w0 W2 W3 W4 : World} {T S T2 : Nat → Prop} {b1 b2 m n2 c2 nc : Nat} {q : Rl} {G : Nat → Nat} {rv lv : Value} {rs cs : List GC} {a2 : Option Addr} (hq : qs[m]? = some q) (hc : q.car.isSome = false) (hTl : ∀ b, T b → b < w.heap.size ∧ w0.heap.size ≤ b) (h : BuM qs ls dcs w w0 T b1 b2 m q G rv lv rs cs W2 a2 c2 n2 S T2)
    (ho : OwnC (fun b => b = W2.heap.size) W3 (.slice (some ⟨W2.heap.size, 0, none⟩) q.name.nm.length nc) 1 q.name.nm.length (intVs .u8 (lf q.name.nm) q.name.nm.length)) (hk3 : Keep (fun _ => False) W2 W3) (hs3 : W3.heap.size = W2.heap.size + 1) (hk4 : Keep (fun _ => False) W3 W4) :
    ∃ ra rc G2, rv = .slice ra rs.length rc ∧ OwnC (Tg G2 W4 0) W4 rv 2 rs.length (rs.flatMap ncR) ∧ rs.length ≤ m ∧ ∀ v' W5, OwnC (fun b => Tg G2 W4 0 b ∨ W4.heap.size ≤ b) W5 v' 2 (rs.length + 1) (rs.flatMap ncR ++ [.slice (some ⟨W2.heap.size, 0, none⟩) q.name.nm.length nc, .slice a2 n2 c2]) → Grew (Tg G2 W4 0) W4 W5 →
      W5.heap[w.heap.size + 3]? = some (.cells #[rv, lv] 26) ∧ buK qs ls dcs w w0 T b1 b2 (.int .i64 ((m : Int) + 1)) (W5.setCell ⟨w.heap.size + 3, 0, none⟩ v') := by
  have z4 := hk4.size
  have hml := (List.getElem?_eq_some_iff.1 hq).1
  have hbig := h.big
  have hle := h.st.le
  have hst2 : ∀ b, b < W2.heap.size → W4.heap[b]? = W2.heap[b]? := fun b hb => (hk4.block b (by omega) (fun z => z)).trans (hk3.block b hb (fun z => z))
  have S1 := (h.st.step hk3 (fun b q => q.elim)).step hk4 (fun b q => q.elim)
  have S2 := S1.tag S (6 + 4 * rs.length) h.free
  have S3 := S2.tag (fun b => b = W2.heap.size) (4 + 4 * rs.length) (fun b hb => ⟨by subst hb; rw [tagS_out (fun z => by have := h.lt _ z; omega)]; exact h.new3 _ (Nat.le_refl _), by omega, .inr (by omega)⟩)
  have hnS : ∀ b, S b → ¬ b = W2.heap.size := fun b z => by have := h.lt b z; omega
  obtain ⟨ra, rc, er⟩ := own_shape S3.bg.rules
  have hrl : rs.length ≤ m := by
    have e := congrArg List.length h.rules
    unfold rulesNL at e
    rw [List.length_map, List.length_map] at e
    rw [e]
    exact Nat.le_trans (List.length_filter_le _ _) (by rw [List.length_take]; omega)
  refine ⟨ra, rc, _, er, S3.bg.rules, hrl, fun v' W5 own g5 => ?_⟩
  obtain ⟨hv, hS5⟩ := S3.addR (x := ⟨⟨q.name.nm, true, q.body.ops (namesOf qs) ls⟩, some ⟨W2.heap.size, 0, none⟩, nc, a2, c2⟩) (v4 := v') (W4 := W5)
    (ownC_wide (ho.on (fun b z => hk4.block b (by rw [z]; omega) (fun y => y))) (fun b z => ⟨by rw [z]; omega, tagS_in z⟩))
    (by rw [← h.len]; exact (h.bod.on (fun b z => hst2 b (h.lt b z))).wide (fun b z => ⟨by have := h.lt b z; omega, by rw [tagS_out (S := fun b => b = W2.heap.size) (hnS b z)]; exact tagS_in z⟩))
    (by rw [h.len] at own; exact own) g5 (by omega)
  refine ⟨hv, m + 1, _, v', lv, _, cs, T2, hml, by simp, hS5, ?_, ?_, ?_, fun b hb => ⟨(h.t2 b hb).1.1, ?_⟩, by rw [size_set]; have := g5.size; omega⟩
  · rw [take_snoc hq, rulesNL_snoc, hc, List.map_append, h.rules]
    simp [ruleNL]
  · rw [take_snoc hq, labsNL_rule (by cases hcc : q.car with | none => rfl | some y => rw [hcc] at hc; cases hc), h.labs]
  · refine h.rest.on (fun b hb => ?_) (fun b hb => hb)
    have hb1 := (hTl b (h.t2 b hb).1.1).1
    have hb2 : b < W2.heap.size := by omega
    have n3 : ¬ b = W2.heap.size := by omega
    refine (Below.heap_setCell _ _ _ _ (by show b ≠ w.heap.size + 3; omega)).trans ((g5.block b (by omega) (fun z => ?_)).trans (hst2 b hb2))
    have z2 := z.2
    rw [tagS_out (S := fun b => b = W2.heap.size) n3, tagS_out (h.t2 b hb).2, (h.t2 b hb).1.2] at z2
    omega
  · have hb1 := (hTl b (h.t2 b hb).1.1).1
    rw [tagN_old (by omega), tagS_out (S := fun b => b = W2.heap.size) (show ¬ b = W2.heap.size by omega), tagS_out (h.t2 b hb).2]
    exact (h.t2 b hb).1.2
end
section
open Go.RowKit
open M (OpD NodeD Gr)
theorem lookX (w : World) {ops : Array Oper} {rest : List Oper} {o : Oper} {a : Act} {Q : Exit → Act → World → Prop} (hg : o.guard = none) (m x : Operand) (hop : o.op = Op.lookup 65 m x false) (b : Nat) (ks : List (List Int)) (g : List Int → Nat) (z : List Int) (hm : a.eval m = .map (some b)) (h : MapN w b ks g) (hx : a.eval x = .string (str z.length (lf z))) (hz : z ∈ ks)
    (hK : wpList Tryz.prog ops Q rest (a.put o.dst (.int .i64 (g z : Nat))) w) : wpList Tryz.prog ops Q (o :: rest) a w := by
  refine lookV w hg m x hop b ks g z hm h hx (h.byt z hz) (h.sml z hz) ?_
  unfold valN
  rw [if_pos hz]
  exact hK
theorem src_two (W : World) (a1 a2 : Option Addr) (n1 c1 n2 c2 : Nat) (t : TypeId) : Src Tryz.prog 2 23 (.slice (some ⟨W.heap.size, 0, none⟩) 1 1) 1 [.slice a1 n1 c1, .slice a2 n2 c2] (W.alloc (.cells #[.slice a1 n1 c1, .slice a2 n2 c2] t)) := by
  refine src_cells Tryz.underlying23 rfl (fun j u hu => ?_) (fun u hu => ?_)
  · simp only [World.cell?, World.alloc_heap_new]
    rw [← hu]
    simp
  · simp only [List.mem_cons, List.not_mem_nil, or_false] at hu
    rcases hu with rfl | rfl <;> rfl
theorem drop_def {qs : List Rl} {dcs d : List Value} {m : Nat} {q : Rl} {v : Value} (e : dcs.drop (m * 4) = dfC q v ++ d) : dcs.drop ((m + 1) * 4) = d ∧ ∀ j, j < 4 → dcs[m * 4 + j]? = (dfC q v)[j]? := by
  refine ⟨?_, fun j hj => ?_⟩
  · have := congrArg (List.drop 4) e
    rw [List.drop_drop] at this
    rw [show (m + 1) * 4 = m * 4 + 4 by omega, this]
    rfl
  · rw [← List.getElem?_drop, e, List.getElem?_append_left (by rw [dfC_len]; exact hj)]
set_option maxHeartbeats 2000000 in
set_option maxRecDepth 100000 in
theorem ibuild_any (rb : Nat) (t : Tx) (r : Rv) (k : Tok) (sa : Option Addr) (sc i : Nat) (qs : List Rl) (A B N D T : Nat → Prop) (w w0 : World) (hD : DS rb t r k sa sc i [] qs A B N D T w) (hT0 : ∀ b, T b → w0.heap.size ≤ b) (hz0 : w0.heap.size ≤ w.heap.size) (b1 b2 : Nat) (ls : List (List Int)) (hN : Nm2 w b1 b2 (namesOf qs) ls) (hT1 : ¬ T b1) (hT2 : ¬ T b2) (hH : BuH qs ls) :
    Calls Tryz.prog 21 #[.pointer (some ⟨rb, 0, none⟩), .agg #[.map (some b1), .map (some b2)]] w (BuIs qs ls T w0 w) := by
  obtain ⟨dcs, hdcs, hdt⟩ := hD.row
  have hql := hD.len
  simp only [List.length_nil, Nat.add_zero] at hql
  obtain ⟨ra, rc, hv6⟩ := own_shape hdcs
  have c6 : w.cell? ⟨rb, 6, none⟩ = some (.slice ra qs.length rc) := by
    have h : w.cell? ⟨rb, 6, none⟩ = some r.v6 := blk_cell hD.st.blk rfl
    rw [hv6] at h
    exact h
  have hrb := hD.st.blk.lt
  have hrbT : ¬ T rb := fun q => (hD.ta rb q).2.1 rfl
  have HTL : Hid (∀ b, T b → b < w.heap.size ∧ w0.heap.size ≤ b) := fun b q => ⟨(hD.ta b q).1, hT0 b q⟩
  have HDT : Hid (DfT w qs dcs T) := hdt
  have HCS : Hid (∀ k q, qs[k]? = some q → ∃ g, ra = some ⟨g, 0, none⟩ ∧ g < w.heap.size ∧ ¬ T g ∧ ∀ j, j < 4 → w.cell? ⟨g, k * 4 + j, none⟩ = dcs[k * 4 + j]?) := fun k q hq => by
    have hk := (List.getElem?_eq_some_iff.1 hq).1
    obtain ⟨g, c, e, hg, hc⟩ := row4 hdcs hdt.len (by omega)
    rw [hv6] at e
    injection e with e1 _ _
    exact ⟨g, e1, (hD.da g hg).1, (hD.da g hg).2.2.2.2.2, fun j hj => hc k hk j hj⟩
  have HH : Hid (BuH qs ls) := hH
  have HN : Hid (Nm2 w b1 b2 (namesOf qs) ls) := hN
  have hll : ls.length ≤ 1000000 := hN.labs.len
  have HT12 : Hid (¬ T b1 ∧ ¬ T b2) := ⟨hT1, hT2⟩
  have HZ0 : Hid (w0.heap.size ≤ w.heap.size) := hz0
  have hmk := fun W => make50 ls.length (by omega) W
  have HM1 : Hid (MapN ((w.alloc (.cells #[.map (some b1), .map (some b2)] 67)).alloc (.cells #[.slice none 0 0, .slice none 0 0] 26)) b2 ls (ixN ls)) := (hN.labs.alloc _).alloc _
  have HM3 : Hid (MapN ((((w.alloc (.cells #[.map (some b1), .map (some b2)] 67)).alloc (.cells #[.slice none 0 0, .slice none 0 0] 26)).alloc (.cells (madeCells #[.slice none 0 0, .bool false, .slice none 0 0] (ls.length * 3)) 50)).alloc (.cells #[.slice none 0 0, .slice (some ⟨w.heap.size + 2, 0, none⟩) ls.length ls.length] 26)) b2 ls (ixN ls)) := (((hN.labs.alloc _).alloc _).alloc _).alloc _
  clear hD hdcs hdt hv6 hT0 hH hN hT1 hT2 hz0
  go_enter Tryz.func21, Tryz.ntmps21
  go_wp2_with (first
    | (at_len; refine lenN _ rfl _ rfl b2 ls (ixN ls) rfl HM1.out ?_)
    | (at_range; refine rangeN _ rfl _ rfl b2 ls (ixN ls) rfl HM3.out (r := w.heap.size + 4) (by simp) ?_; intro V4 hrg hgr hsz4))
  go_frame
  simp only [Nat.add_assoc, Nat.reduceAdd]
  have HI : Hid (∀ v, buI w w0 T b1 b2 ls v V4) := bu_start HZ0.out hrg.out hgr.out hsz4.out
  have hb2 : b2 < w.heap.size := HN.out.labs.lt
  have HBY : Hid (∀ z ∈ ls, BytL z) := HN.out.labs.byt
  have HND : Hid ls.Nodup := HN.out.labs.nd
  clear hrg hgr hsz4 HM1 HM3 hmk
  go_loopw [6] (buI w w0 T b1 b2 ls) (fun _ wr => wr.rangeLeft b2 (w.heap.size + 4))
  case atStart => exact HI.out _
  case round =>
    clear HI
    obtain ⟨todo, cnt, cs, G, hrg, hS, hcl, h5, hkp, hg3, hcs⟩ := hrel
    have HKP : Hid (Keep (fun _ => False) w wr ∧ ∀ b, b < w.heap.size → G b = 3) := ⟨hkp, hg3⟩
    have HRG : Hid (RgN wr b2 (w.heap.size + 4) ls (ixN ls) todo cnt) := hrg
    have HS : Hid (BuS w w0 T b1 b2 G wr (.slice none 0 0) (.slice (some ⟨w.heap.size + 2, 0, none⟩) ls.length ls.length) [] cs) := hS
    have HCS2 : Hid (cs.length = ls.length ∧ ∀ (i : Nat) (z : List Int), ls[i]? = some z → ∃ x, cs[i]? = some x ∧ (todo z → x = gc0) ∧ (¬ todo z → x.d = ⟨z, false, []⟩)) := ⟨hcl, hcs⟩
    have H5 : Hid (w.heap.size + 5 ≤ wr.heap.size) := h5
    have HVAR : Hid (∀ z W', z ∈ ls → wr.grownBy W' (some (w.heap.size + 4)) → W'.cell? ⟨w.heap.size + 3, 1, none⟩ = some (.slice (some ⟨w.heap.size + 2, 0, none⟩) ls.length ls.length) ∧ w.heap.size + 3 < W'.heap.size ∧ ((ixN ls z : Nat) : Int) < (ls.length : Int)) := fun z W' hz hg => by
      have hl : ixN ls z < ls.length := List.idxOf_lt_length_of_mem hz
      exact ⟨blk_cell ((hg.block (w.heap.size + 3) (by omega) (by simp)).trans hS.var) rfl, by have := hg.size; omega, by omega⟩
    have d6 : wr.cell? ⟨rb, 6, none⟩ = some (.slice ra qs.length rc) := (hS.keep.cell (p := ⟨rb, 6, none⟩) hrb hrbT).trans c6
    have hrbw : rb < wr.heap.size := by omega
    clear hrg hS hcl h5 hcs hkp hg3
    go_wp2_with (first
      | (at_next
         refine nextN _ rfl _ rfl b2 (w.heap.size + 4) ls (ixN ls) todo cnt rfl HRG.out HBY.out HVAR.out (fun hdone => ?_) (fun z W' cnt' hz htd hrg' hlt' hg' hs' hen hzz => ?_))
      | (refine convO rfl _ rfl z rfl (HBY.out z hz.out) ?_
         intro nc W'' ho hk hs2
         have HRD := fun v => bu_round HND.out hrg'.out HS.out HCS2.out.1 H5.out HKP.out.1 HKP.out.2 hb2 HCS2.out.2 hz.out htd.out hg'.out hs'.out hk.out hs2.out ho.out v
         have r0 := (HRD undef).1
         have rf := (HRD undef).2.1
         have lr := lt_of_cell r0
         have HI2 : Hid (∀ v, buI w w0 T b1 b2 ls v (W''.setCell ⟨w.heap.size + 2, ixN ls z * 3, none⟩ (.slice (some ⟨W'.heap.size, 0, none⟩) z.length nc))) := fun v => (HRD v).2.2.1
         have HMS : Hid ((W''.setCell ⟨w.heap.size + 2, ixN ls z * 3, none⟩ (.slice (some ⟨W'.heap.size, 0, none⟩) z.length nc)).rangeLeft b2 (w.heap.size + 4) < wr.rangeLeft b2 (w.heap.size + 4)) := by rw [(HRD undef).2.2.2, HRG.out.left]; exact hlt'.out
         clear HRD ho hk hs2))
    · clear d6 c6 HVAR HBY
      have HL0 : Hid (cs.map (·.d) = labsNL (namesOf qs) ls []) := bu_names (w := w) (w0 := w0) (wr := wr) (T := T) (b1 := b1) (b2 := b2) HCS2.out.1 HCS2.out.2 hdone.out
      have HI : Hid (buK qs ls dcs w w0 T b1 b2 (.int .i64 ((0 : Nat) : Int)) wr) := by
        refine ⟨0, tagN G wr 3, _, _, [], cs, T, Nat.zero_le _, rfl, HS.out.fresh, rfl, HL0.out, ?_, fun b q => ⟨q, ?_⟩, H5.out⟩
        · rw [Nat.zero_mul]
          exact HDT.out.on (fun b q => HKP.out.1.block b (HTL.out b q).1 (fun z => z)) (fun b q => q)
        · have hb := (HTL.out b q).1
          rw [tagN_old (by have := H5.out; omega)]
          exact HKP.out.2 b hb
      clear hdone HL0 HCS2 HRG
      go_wp2
      go_loopw [37] (buK qs ls dcs w w0 T b1 b2) (fun v _ => qs.length - (intOf v).toNat)
      case atStart => exact HI.out
      case round =>
        clear HI HS H5 HKP hrbw
        obtain ⟨m, G2, rv, lv, rs, cs2, T', hm, rfl, hS2, hr, hl, hdf, hT', h5'⟩ := hrel
        by_cases hlt : m < qs.length
        · obtain ⟨q, hq⟩ : ∃ q, qs[m]? = some q := ⟨_, List.getElem?_eq_getElem hlt⟩
          rw [drop_cons' hq] at hdf
          obtain ⟨v, d, P, T2, e, hTr, hDf, hP, hT2, hdis⟩ := hdf
          obtain ⟨hdrop, hget⟩ := drop_def (qs := qs) e
          rw [← hdrop] at hDf
          obtain ⟨g, rfl, hg, hTg, hc⟩ := HCS.out m q hq
          obtain ⟨ty, u, rfl⟩ := TrA.iface q.body hTr
          have hqm := List.mem_of_getElem? hq
          have y0 : wr.cell? ⟨g, m * 4, none⟩ = some (.string (str q.name.nm.length (lf q.name.nm))) := (hS2.keep.cell (p := ⟨g, m * 4 + 0, none⟩) hg hTg).trans ((hc 0 (by omega)).trans (hget 0 (by omega)))
          have y1 : wr.cell? ⟨g, m * 4 + 1, none⟩ = some (.int .i64 (q.name.at_ : Nat)) := (hS2.keep.cell (p := ⟨g, m * 4 + 1, none⟩) hg hTg).trans ((hc 1 (by omega)).trans (hget 1 (by omega)))
          have y2 : wr.cell? ⟨g, m * 4 + 2, none⟩ = some (.bool q.car.isSome) := (hS2.keep.cell (p := ⟨g, m * 4 + 2, none⟩) hg hTg).trans ((hc 2 (by omega)).trans (hget 2 (by omega)))
          have y3 : wr.cell? ⟨g, m * 4 + 3, none⟩ = some (.iface ty u) := (hS2.keep.cell (p := ⟨g, m * 4 + 3, none⟩) hg hTg).trans ((hc 3 (by omega)).trans (hget 3 (by omega)))
          have x0 : wr.cell? ⟨w.heap.size, 0, none⟩ = some (.map (some b1)) := blk_cell hS2.box rfl
          have x1 : wr.cell? ⟨w.heap.size, 1, none⟩ = some (.map (some b2)) := blk_cell hS2.box rfl
          have hgr : g < wr.heap.size := by omega
          have hwr : w.heap.size < wr.heap.size := by omega
          have hlt' : (m : Int) < (qs.length : Int) := by omega
          have HQ : Hid (qs[m]? = some q) := hq
          have hPT : ∀ b, P b → b < w.heap.size := fun b z => (HTL.out b (hT' b (hP b z)).1).1
          have hNr : Nm2 wr b1 b2 (namesOf qs) ls := HN.out.on (hS2.keep.block b1 HN.out.rules.lt HT12.out.1) (hS2.keep.block b2 HN.out.labs.lt HT12.out.2)
          generalize hbv : q.car.isSome = bv at y2
          have HBV : Hid (q.car.isSome = bv) := hbv
          have ka : Keep (fun _ => False) wr (wr.alloc (.cells #[.string (str q.name.nm.length (lf q.name.nm)), .int .i64 (q.name.at_ : Nat), .bool bv, .iface ty u] 87)) := Keep.alloc _ _ _
          have HC : Hid (Calls Tryz.prog 42 #[.agg #[.map (some b1), .map (some b2)], .slice none 0 0, .iface ty u] (wr.alloc (.cells #[.string (str q.name.nm.length (lf q.name.nm)), .int .i64 (q.name.at_ : Nat), .bool bv, .iface ty u] 87)) (AoIs (fun _ => False) P (q.body.ops (namesOf qs) ls) (wr.alloc (.cells #[.string (str q.name.nm.length (lf q.name.nm)), .int .i64 (q.name.at_ : Nat), .bool bv, .iface ty u] 87)))) :=
            ao_any b1 b2 (hTr.trv q.body (HH.out.refs q hqm) (HH.out.thrs q hqm)) _ (fun _ => False) none 0 0 [] (fun b z => ka.block b (by have := hPT b z; omega) (fun y => y)) (fun b z => ⟨by have := hPT b z; have := ka.size; omega, fun y => y⟩) (fun b z => z.elim) (hNr.on (ka.block b1 hNr.rules.lt (fun y => y)) (ka.block b2 hNr.labs.lt (fun y => y))) (fun y => y) (fun y => y) (fun z => HT12.out.1 (hT' _ (hP _ z)).1) (fun z => HT12.out.2 (hT' _ (hP _ z)).1) (bod_nil _ _) rfl (by rw [List.length_nil, Nat.zero_add]; exact HH.out.ops q hqm)
          have HMD : Hid (∀ W2 a2 n2 c2, AoIs (fun _ => False) P (q.body.ops (namesOf qs) ls) (wr.alloc (.cells #[.string (str q.name.nm.length (lf q.name.nm)), .int .i64 (q.name.at_ : Nat), .bool bv, .iface ty u] 87)) (.returned (.slice a2 n2 c2)) W2 → ∃ G3, BuM qs ls dcs w w0 T b1 b2 m q G3 rv lv rs cs2 W2 a2 c2 n2 (fun b => P b ∨ New (wr.alloc (.cells #[.string (str q.name.nm.length (lf q.name.nm)), .int .i64 (q.name.at_ : Nat), .bool bv, .iface ty u] 87)) W2 b) T2) := fun W2 a2 n2 c2 h => bu_mid HTL.out hS2 hr hl hT' h5' hDf hP hT2 hdis ka h
          have HDB : Hid (∀ W2, Keep (fun b => False ∨ P b) (wr.alloc (.cells #[.string (str q.name.nm.length (lf q.name.nm)), .int .i64 (q.name.at_ : Nat), .bool bv, .iface ty u] 87)) W2 → W2.heap[wr.heap.size]? = some (.cells #[.string (str q.name.nm.length (lf q.name.nm)), .int .i64 (q.name.at_ : Nat), .bool bv, .iface ty u] 87)) := fun W2 k2 => (k2.block wr.heap.size (by simp) (fun z => by
            have z : P wr.heap.size := z.elim (fun y => y.elim) id
            have := hPT _ z
            omega)).trans (World.alloc_heap_new wr _)
          clear hS2 hr hl hDf hP hT2 hdis ka hT' h5' hTr hNr hPT hdrop hget hc hq hqm e hbv
          go_wp2_with fail
          refine HC.out.mono ?_
          intro e W2 hA
          obtain ⟨a2, c2, n2, rfl, hn2, hB2, hK2⟩ := hA
          have hdb := HDB.out W2 hK2
          obtain ⟨G3, hM⟩ := HMD.out W2 a2 n2 c2 ⟨a2, c2, n2, rfl, hn2, hB2, hK2⟩
          generalize hSS : (fun b => P b ∨ New (wr.alloc (.cells #[.string (str q.name.nm.length (lf q.name.nm)), .int .i64 (q.name.at_ : Nat), .bool bv, .iface ty u] 87)) W2 b) = SS at hM
          have HM : Hid (BuM qs ls dcs w w0 T b1 b2 m q G3 rv lv rs cs2 W2 a2 c2 n2 SS T2) := hM
          have d0 : W2.cell? ⟨wr.heap.size, 0, none⟩ = some (.string (str q.name.nm.length (lf q.name.nm))) := blk_cell hdb rfl
          have d2 : W2.cell? ⟨wr.heap.size, 2, none⟩ = some (.bool bv) := blk_cell hdb rfl
          have ld := lt_of_cell d0
          have x1' : W2.cell? ⟨w.heap.size, 1, none⟩ = some (.map (some b2)) := blk_cell hM.st.box rfl
          have lx1 := lt_of_cell x1'
          have v0 : W2.cell? ⟨w.heap.size + 3, 0, none⟩ = some rv := blk_cell hM.st.var rfl
          have v1 : W2.cell? ⟨w.heap.size + 3, 1, none⟩ = some lv := blk_cell hM.st.var rfl
          have lv0 := lt_of_cell v0
          have HML : Hid (MapN W2 b2 ls (ixN ls)) := HN.out.labs.on (hM.st.keep.block b2 HN.out.labs.lt HT12.out.2)
          clear hM hSS hn2 hB2 hK2 hdb HDB HMD HC y0 y1 y2 y3 x0 x1
          cases bv with
          | true =>
            obtain ⟨gl, gc, u1, u2, rfl, hixl, q1, f1, q2, f2, hI⟩ := bu_rec HH.out HND.out HQ.out HBV.out HTL.out HM.out
            have HI2 : Hid (buK qs ls dcs w w0 T b1 b2 (.int .i64 ((m : Int) + 1)) ((W2.setCell ⟨gl, ixN ls q.name.nm * 3 + 1, none⟩ (.bool true)).setCell ⟨gl, ixN ls q.name.nm * 3 + 2, none⟩ (.slice a2 n2 c2))) := hI
            have hixl' : ((ixN ls q.name.nm : Nat) : Int) < (ls.length : Int) := by omega
            have HMEM : Hid (q.name.nm ∈ ls) := HH.out.rec_ q (List.mem_of_getElem? HQ.out) HBV.out
            have lq1 := lt_of_cell q1
            clear hI HM
            go_wp2_with (at_lookup; refine lookX _ rfl _ _ rfl b2 ls (ixN ls) q.name.nm rfl HML.out rfl HMEM.out ?_)
            go_roundw
            all_goals first
              | exact HI2.out
              | (simp [intOf]; omega)
          | false =>
            obtain ⟨ra', rc', hrv⟩ := own_shape HM.out.st.bg.rules
            subst hrv
            have HZ : Hid (BytL q.name.nm) := (HH.out.nm q (List.mem_of_getElem? HQ.out)).1
            go_wp2_with (first
              | (refine convO rfl _ rfl q.name.nm rfl HZ.out ?_
                 intro nc W3 ho hk hs3
                 obtain ⟨ra2, rc2, G4, erv, hown, hrl, hfin⟩ := bu_rule HQ.out HBV.out HTL.out HM.out ho.out hk.out hs3.out (Keep.alloc (fun _ => False) W3 (.cells #[.slice (some ⟨W2.heap.size, 0, none⟩) q.name.nm.length nc, .slice a2 n2 c2] 53))
                 have HOW : Hid (OwnC (Tg G4 (W3.alloc (.cells #[.slice (some ⟨W2.heap.size, 0, none⟩) q.name.nm.length nc, .slice a2 n2 c2] 53)) 0) (W3.alloc (.cells #[.slice (some ⟨W2.heap.size, 0, none⟩) q.name.nm.length nc, .slice a2 n2 c2] 53)) (.slice ra' rs.length rc') 2 rs.length (rs.flatMap ncR)) := hown
                 have HFN : Hid (∀ v' W5, OwnC (fun b => Tg G4 (W3.alloc (.cells #[.slice (some ⟨W2.heap.size, 0, none⟩) q.name.nm.length nc, .slice a2 n2 c2] 53)) 0 b ∨ (W3.alloc (.cells #[.slice (some ⟨W2.heap.size, 0, none⟩) q.name.nm.length nc, .slice a2 n2 c2] 53)).heap.size ≤ b) W5 v' 2 (rs.length + 1) (rs.flatMap ncR ++ [.slice (some ⟨W2.heap.size, 0, none⟩) q.name.nm.length nc, .slice a2 n2 c2]) → Grew (Tg G4 (W3.alloc (.cells #[.slice (some ⟨W2.heap.size, 0, none⟩) q.name.nm.length nc, .slice a2 n2 c2] 53)) 0) (W3.alloc (.cells #[.slice (some ⟨W2.heap.size, 0, none⟩) q.name.nm.length nc, .slice a2 n2 c2] 53)) W5 →
                   W5.heap[w.heap.size + 3]? = some (.cells #[.slice ra' rs.length rc', lv] 26) ∧ buK qs ls dcs w w0 T b1 b2 (.int .i64 ((m : Int) + 1)) (W5.setCell ⟨w.heap.size + 3, 0, none⟩ v')) := hfin
                 have HRL : Hid (rs.length + 1 ≤ 16777216) := Nat.le_trans (Nat.add_le_add_right hrl 1) (by omega)
                 have HSR := src_two W3 (some ⟨W2.heap.size, 0, none⟩) a2 q.name.nm.length nc n2 c2 53
                 have HSR : Hid _ := HSR
                 clear hown hfin erv hrl ho hk hs3 v0 v1 d0 d2 x1' HM)
              | (at_builtin
                 refine appE rfl _ _ 23 23 rfl rfl rfl elem23 (Q := Tg G4 (W3.alloc (.cells #[.slice (some ⟨W2.heap.size, 0, none⟩) q.name.nm.length nc, .slice a2 n2 c2] 53)) 0) (n := rs.length) (cs := rs.flatMap ncR) (m := 1) (news := [.slice (some ⟨W2.heap.size, 0, none⟩) q.name.nm.length nc, .slice a2 n2 c2]) HOW.out HSR.out HRL.out ?_
                 intro v5 W5 hown5 hg5 hsz5
                 obtain ⟨hv5, hI5⟩ := HFN.out v5 W5 hown5 hg5
                 obtain ⟨a5, c5, rfl⟩ := own_shape hown5
                 have HI2 : Hid (buK qs ls dcs w w0 T b1 b2 (.int .i64 ((m : Int) + 1)) (W5.setCell ⟨w.heap.size + 3, 0, none⟩ (.slice a5 (rs.length + 1) c5))) := hI5
                 have w50 : W5.cell? ⟨w.heap.size + 3, 0, none⟩ = some (.slice ra' rs.length rc') := blk_cell hv5 rfl
                 have wf5 : W5.frozen? ⟨w.heap.size + 3, 0, none⟩ = false := blk_frz hv5
                 have lw5 := lt_of_cell w50
                 clear hown5 hg5 hsz5 hv5 hI5))
            go_roundw
            all_goals first
              | exact HI2.out
              | (simp [intOf]; omega)
        · have hge : ¬ ((m : Int) < (qs.length : Int)) := by omega
          have hmq : m = qs.length := by omega
          rw [hmq, List.take_of_length_le (Nat.le_refl _)] at hr hl
          obtain ⟨ra', rc', hrv⟩ := own_shape hS2.bg.rules
          obtain ⟨la', lc', hlv⟩ := own_shape hS2.bg.labs
          subst hrv hlv
          have v0 : wr.cell? ⟨w.heap.size + 3, 0, none⟩ = some (.slice ra' rs.length rc') := blk_cell hS2.var rfl
          have v1 : wr.cell? ⟨w.heap.size + 3, 1, none⟩ = some (.slice la' cs2.length lc') := blk_cell hS2.var rfl
          have lv0 := lt_of_cell v0
          have r0 : wr.cell? ⟨w.heap.size + 1, 0, none⟩ = some (.slice none 0 0) := blk_cell hS2.res rfl
          have r1 : wr.cell? ⟨w.heap.size + 1, 1, none⟩ = some (.slice none 0 0) := blk_cell hS2.res rfl
          have rf0 : wr.frozen? ⟨w.heap.size + 1, 0, none⟩ = false := blk_frz hS2.res
          have rf1 : wr.frozen? ⟨w.heap.size + 1, 1, none⟩ = false := blk_frz hS2.res
          have lr0 := lt_of_cell r0
          have HFI : Hid (BuIs qs ls T w0 w (.returned (.agg #[.slice ra' rs.length rc', .slice la' cs2.length lc'])) ((wr.setCell ⟨w.heap.size + 1, 0, none⟩ (.slice ra' rs.length rc')).setCell ⟨w.heap.size + 1, 1, none⟩ (.slice la' cs2.length lc'))) := by
            have hg3 : G2 (w.heap.size + 1) = 3 := hS2.tag3 (fun q => by omega) (by omega)
            have hst : ∀ b, b ≠ w.heap.size + 1 → ((wr.setCell ⟨w.heap.size + 1, 0, none⟩ (.slice ra' rs.length rc')).setCell ⟨w.heap.size + 1, 1, none⟩ (.slice la' cs2.length lc')).heap[b]? = wr.heap[b]? := fun b hb => (Below.heap_setCell _ _ _ _ hb).trans (Below.heap_setCell _ _ _ _ hb)
            exact ⟨G2, _, _, rs, cs2, rfl, hS2.bg.on (by simp only [size_set]; exact Nat.le_refl _) (fun b _ hg => hst b (fun e => hg (by rw [e]; exact hg3))) (fun _ _ _ => rfl) hS2.bg.new, hr, hl, ⟨hS2.keep.os, hS2.keep.tape, hS2.keep.output, by simp only [size_set]; exact hS2.keep.size, fun b hb hc => (hst b (by omega)).trans (hS2.keep.block b hb hc)⟩, fun b hb => (hS2.own b hb).elim (fun q => .inl q.1) (fun q => .inr (by omega))⟩
          clear hS2 hr hl hdf hT' h5' hmq
          go_wp2
          refine bodyPost_ret (v := .agg #[.slice ra' rs.length rc', .slice la' cs2.length lc']) ?_ rfl ?_
          · simp [results, Tryz.f21, go_sem, *]
          · exact HFI.out
    · go_roundw
      all_goals first
        | exact HI2.out _
        | exact HMS.out
end
end Go.Proofs.YteoddjobpmmgeaaGreat
