import Derived.Test.YteoddjobpmmgeaaGreatT30
import Derived.Test.YteoddjobpmmgeaaGreatT11
import Derived.Test.YteoddjobpmmgeaaGreatT26
set_option linter.unusedVariables false
set_option linter.unusedSimpArgs false
namespace Go.Proofs.YteoddjobpmmgeaaGreat
section
open Go.RowKit
open M (OpD NodeD Gr)
theorem info87 : (Tryz.prog.info? 87).map (fun i => (i.zero, i.size, i.bytes)) = some (some (.agg #[.string ⟨#[]⟩, .int .i64 0, .bool false, .nilIface]), 4, 48) := by kernel_rfl
theorem elem60 : ElemT 60 87 4 48 := ⟨Tryz.underlying60, ⟨_, info87, rfl⟩, by omega⟩
theorem src_df (W : World) (z : ByteArray) (a : Int) (c : Bool) (y : TypeId) (u : Value) {ty : TypeId} : Src Tryz.prog 4 60 (.slice (some ⟨W.heap.size, 0, none⟩) 1 1) 1 [.string z, .int .i64 a, .bool c, .iface y u] (W.alloc (.cells #[.string z, .int .i64 a, .bool c, .iface y u] ty)) :=
  src_cells Tryz.underlying60 rfl (fun j u hu => by
    have hb := World.alloc_heap_new W (.cells #[.string z, .int .i64 a, .bool c, .iface y u] ty)
    simp only [World.cell?, World.alloc_heap_new]
    rw [← hu]
    simp) (fun u hu => by
    simp only [List.mem_cons, List.not_mem_nil, or_false] at hu
    rcases hu with rfl | rfl | rfl | rfl <;> rfl)
def dfC (q : Rl) (v : Value) : List Value := [.string (str q.name.nm.length (lf q.name.nm)), .int .i64 (q.name.at_ : Nat), .bool q.car.isSome, v]
def DfT (w : World) : List Rl → List Value → (Nat → Prop) → Prop
  | [], cs, T => cs = []
  | q :: r, cs, T => ∃ v d P T', cs = dfC q v ++ d ∧ TrA w q.body v P ∧ DfT w r d T' ∧ (∀ b, P b → T b) ∧ (∀ b, T' b → T b) ∧ (∀ b, P b → ¬ T' b)
theorem DfT.on {w w' : World} : ∀ {qs : List Rl} {cs : List Value} {T T2 : Nat → Prop}, DfT w qs cs T → Stay T w w' → (∀ b, T b → T2 b) → DfT w' qs cs T2
  | [], cs, T, T2, h, _, _ => h
  | q :: r, cs, T, T2, h, k, t => by
    obtain ⟨v, d, P, T', e, h1, h2, h3, h4, h5⟩ := h
    exact ⟨v, d, P, T', e, TrA.on _ h1 (fun b z => k b (h3 b z)) (fun b z => z), DfT.on h2 (fun b z => k b (h4 b z)) (fun b z => z), fun b z => t b (h3 b z), fun b z => t b (h4 b z), h5⟩
theorem DfT.snoc {w : World} {q : Rl} {v : Value} {P : Nat → Prop} (ht : TrA w q.body v P) : ∀ {qs : List Rl} {cs : List Value} {T : Nat → Prop}, DfT w qs cs T → (∀ b, T b → ¬ P b) → DfT w (qs ++ [q]) (cs ++ dfC q v) (fun b => T b ∨ P b)
  | [], cs, T, h, hd => by
    have h : cs = [] := h
    subst h
    exact ⟨v, [], P, fun _ => False, by simp, ht, rfl, fun b z => .inr z, fun b z => z.elim, fun b z z' => z'⟩
  | y :: r, cs, T, h, hd => by
    obtain ⟨u, d, P', T', e, h1, h2, h3, h4, h5⟩ := h
    subst e
    refine ⟨u, d ++ dfC q v, P', fun b => T' b ∨ P b, by simp, h1, DfT.snoc ht h2 (fun b z => hd b (h4 b z)), fun b z => .inl (h3 b z), ?_, ?_⟩
    · rintro b (z | z)
      · exact .inl (h4 b z)
      · exact .inr z
    · rintro b z (z' | z')
      · exact h5 b z z'
      · exact hd b (h3 b z) z'
def DfRow (D T : Nat → Prop) (w : World) (v : Value) (qs : List Rl) : Prop := ∃ cs, OwnC D w v 4 qs.length cs ∧ DfT w qs cs T
theorem DfRow.on {D D2 T T2 : Nat → Prop} {w w' : World} {v : Value} {qs : List Rl} (h : DfRow D T w v qs) (k : Stay D w w') (k2 : Stay T w w') (t : ∀ b, D b → D2 b) (t2 : ∀ b, T b → T2 b) : DfRow D2 T2 w' v qs := by
  obtain ⟨cs, h1, h2⟩ := h
  exact ⟨cs, ownC_wide (h1.on k) t, h2.on k2 t2⟩
def refTs (qs : List Rl) : List Tok := qs.flatMap (fun q => q.body.refT)
def thrTs (qs : List Rl) : List Tok := qs.flatMap (fun q => q.body.thrT)
structure DS (rb : Nat) (t : Tx) (r : Rv) (k : Tok) (sa : Option Addr) (sc i : Nat) (l : List Tok) (qs : List Rl) (A B N D T : Nat → Prop) (w : World) : Prop where
  st : RS rb t r k sa sc i l (refTs qs) (thrTs qs) A B N w
  row : DfRow D T w r.v6 qs
  len : qs.length + l.length ≤ 1000000
  da : ∀ b, D b → b < w.heap.size ∧ b ≠ rb ∧ ¬ A b ∧ ¬ B b ∧ ¬ N b ∧ ¬ T b
  ta : ∀ b, T b → b < w.heap.size ∧ b ≠ rb ∧ ¬ A b ∧ ¬ B b ∧ ¬ N b
  tx : Ints (fun b => ¬ D b) .u8 w r.ta t.n t.T
theorem body_no {n : Nat} {c : Option Tok} {l : List Tok} (h : ∀ y r, l = y :: r → y.kind ≠ 110) : rdBody n c l = .inl (pos n l) := by
  cases l with
  | nil => rfl
  | cons y r => simp only [rdBody]; rw [if_neg (h y r rfl)]; rfl
theorem body_eq {n : Nat} {c : Option Tok} {x : Tok} {l : List Tok} (hx : x.kind = 110) (h : ∀ y r, l = y :: r → y.kind ≠ 61) : rdBody n c (x :: l) = .inl (pos n l) := by
  simp only [rdBody]
  rw [if_pos hx]
  cases l with
  | nil => rfl
  | cons y r => simp only; rw [if_neg (h y r rfl)]; rfl
theorem body_bad {n : Nat} {c : Option Tok} {x y : Tok} {l : List Tok} {p : Nat} (hx : x.kind = 110) (hy : y.kind = 61) (h : BadR (rd n (8 * l.length + 8) 5 .emp l) p) : rdBody n c (x :: y :: l) = .inl p := by
  simp only [rdBody]
  rw [if_pos hx, if_pos hy]
  rcases h with q | ⟨e, z, l', q, hz, ha⟩
  · rw [q]
  · rw [q]
    simp only
    rw [if_neg (by omega), ha]
theorem body_semi {n : Nat} {c : Option Tok} {x y : Tok} {l l2 : List Tok} {e : PE} (hx : x.kind = 110) (hy : y.kind = 61) (hr : rd n (8 * l.length + 8) 5 .emp l = .inr (e, l2)) (h : ∀ z r, l2 = z :: r → z.kind ≠ 59) : rdBody n c (x :: y :: l) = .inl (pos n l2) := by
  simp only [rdBody]
  rw [if_pos hx, if_pos hy, hr]
  cases l2 with
  | nil => rfl
  | cons z r => simp only; rw [if_neg (h z r rfl)]; rfl
theorem body_ok {n : Nat} {c : Option Tok} {x y z : Tok} {l l2 : List Tok} {e : PE} (hx : x.kind = 110) (hy : y.kind = 61) (hr : rd n (8 * l.length + 8) 5 .emp l = .inr (e, z :: l2)) (h : z.kind = 59) : rdBody n c (x :: y :: l) = .inr (⟨c, x, y, e, z⟩, l2) := by
  simp only [rdBody]
  rw [if_pos hx, if_pos hy, hr]
  simp only
  rw [if_pos h]
end
section
open Go.RowKit
open M (OpD NodeD Gr)
def recsOf (qs : List Rl) : List (List Int) := (qs.filter (fun q => q.car.isSome)).map (fun q => q.name.nm)
def ixN (ks : List (List Int)) (z : List Int) : Nat := ks.idxOf z
theorem namesOf_snoc (qs : List Rl) (q : Rl) : namesOf (qs ++ [q]) = if q.car.isSome then namesOf qs else namesOf qs ++ [q.name.nm] := by
  unfold namesOf
  rw [List.filter_append, List.map_append]
  cases h : q.car with
  | none => simp [h]
  | some c => simp [h]
theorem recsOf_snoc (qs : List Rl) (q : Rl) : recsOf (qs ++ [q]) = if q.car.isSome then recsOf qs ++ [q.name.nm] else recsOf qs := by
  unfold recsOf
  rw [List.filter_append, List.map_append]
  cases h : q.car.isSome <;> simp [h]
theorem take_snoc {qs : List Rl} {k : Nat} {q : Rl} (h : qs[k]? = some q) : qs.take (k + 1) = qs.take k ++ [q] := by
  rw [List.take_add_one, h]; rfl
theorem drop_cons' {qs : List Rl} {k : Nat} {q : Rl} (h : qs[k]? = some q) : qs.drop k = q :: qs.drop (k + 1) := by
  obtain ⟨hk, e⟩ := List.getElem?_eq_some_iff.1 h
  rw [List.drop_eq_getElem_cons hk, e]
theorem seen_any (seen : List Rl) (q : Rl) : seen.any (fun s => sameR s q) = true ↔ q.name.nm ∈ (if q.car.isSome then recsOf seen else namesOf seen) := by
  rw [List.any_eq_true]
  unfold sameR recsOf namesOf
  cases h : q.car.isSome
  · simp only [Bool.and_eq_true, beq_iff_eq, decide_eq_true_eq, List.mem_map, List.mem_filter, Bool.false_eq_true, if_false]
    constructor
    · rintro ⟨s, h1, h2, h3⟩
      exact ⟨s, ⟨h1, by rw [h2]; rfl⟩, h3⟩
    · rintro ⟨s, ⟨h1, h2⟩, h3⟩
      exact ⟨s, h1, by simpa using h2, h3⟩
  · simp only [Bool.and_eq_true, beq_iff_eq, decide_eq_true_eq, List.mem_map, List.mem_filter, if_true]
    constructor
    · rintro ⟨s, h1, h2, h3⟩
      exact ⟨s, ⟨h1, h2⟩, h3⟩
    · rintro ⟨s, ⟨h1, h2⟩, h3⟩
      exact ⟨s, h1, h2, h3⟩
theorem dup_at {qs : List Rl} {k : Nat} {q : Rl} (h : qs[k]? = some q) : dupF (qs.take k) (qs.drop k) = if q.name.nm ∈ (if q.car.isSome then recsOf (qs.take k) else namesOf (qs.take k)) then some q.name.at_ else dupF (qs.take (k + 1)) (qs.drop (k + 1)) := by
  rw [drop_cons' h, dupF, take_snoc h]
  by_cases e : (qs.take k).any (fun s => sameR s q) = true
  · rw [if_pos e, if_pos ((seen_any _ _).1 e)]
  · rw [if_neg e, if_neg (fun z => e ((seen_any _ _).2 z))]
theorem ixN_snoc {ks : List (List Int)} {z : List Int} (h : z ∉ ks) : ∀ y ∈ ks ++ [z], updN (ixN ks) z ks.length y = ixN (ks ++ [z]) y := by
  intro y hy
  unfold updN ixN
  by_cases e : y = z
  · rw [if_pos e, e, List.idxOf_append, if_neg h]
    simp [List.idxOf_cons]
  · rw [if_neg e]
    rcases List.mem_append.1 hy with q | q
    · rw [List.idxOf_append, if_pos q]
    · exact absurd (List.mem_singleton.1 q) e
theorem MapN.snoc {w w' : World} {b : Nat} {ks : List (List Int)} {z : List Int} (h : MapN w' b (addN ks z) (updN (ixN ks) z ks.length)) (hz : z ∉ ks) : MapN w' b (ks ++ [z]) (ixN (ks ++ [z])) := by
  unfold addN at h
  rw [if_neg hz] at h
  exact h.congr (ixN_snoc hz)
theorem findF_ix {z : List Int} : ∀ {ks : List (List Int)} {i : Nat}, z ∈ ks → findF z ks i = ((i + ixN ks z : Nat) : Int)
  | [], _, h => by cases h
  | y :: r, i, h => by
    rw [findF]
    by_cases e : y = z
    · rw [if_pos e, e]
      simp [ixN]
    · rw [if_neg e]
      have hr : z ∈ r := by
        rcases List.mem_cons.1 h with q | q
        · exact absurd q.symm e
        · exact q
      rw [findF_ix hr]
      unfold ixN
      have e' : (y == z) = false := by simp [e]
      rw [List.idxOf_cons, e']
      simp only [cond_false]
      congr 1
      omega
theorem dfC_len (q : Rl) (v : Value) : (dfC q v).length = 4 := rfl
theorem DfT.at {w : World} : ∀ {qs : List Rl} {cs : List Value} {T : Nat → Prop}, DfT w qs cs T → ∀ {k : Nat} {q : Rl}, qs[k]? = some q → ∃ v P, TrA w q.body v P ∧ (∀ b, P b → T b) ∧ ∀ j, j < 4 → cs[k * 4 + j]? = (dfC q v)[j]?
  | [], cs, T, h, k, q, hq => by simp at hq
  | y :: r, cs, T, h, k, q, hq => by
    obtain ⟨u, d, P', T', e, h1, h2, h3, h4, h5⟩ := h
    subst e
    cases k with
    | zero =>
      simp at hq
      subst hq
      exact ⟨u, P', h1, h3, fun j hj => by rw [Nat.zero_mul, Nat.zero_add, List.getElem?_append_left (by rw [dfC_len]; exact hj)]⟩
    | succ k =>
      simp at hq
      obtain ⟨v, P, a1, a2, a3⟩ := DfT.at h2 hq
      exact ⟨v, P, a1, fun b z => h4 b (a2 b z), fun j hj => by rw [List.getElem?_append_right (by rw [dfC_len]; omega), dfC_len, show (k + 1) * 4 + j - 4 = k * 4 + j by omega]; exact a3 j hj⟩
theorem DfT.len {w : World} : ∀ {qs : List Rl} {cs : List Value} {T : Nat → Prop}, DfT w qs cs T → cs.length = qs.length * 4
  | [], cs, T, h => by
    have h : cs = [] := h
    subst h
    rfl
  | y :: r, cs, T, h => by
    obtain ⟨u, d, P', T', e, h1, h2, h3, h4, h5⟩ := h
    subst e
    rw [List.length_append, dfC_len, DfT.len h2, List.length_cons]
    omega
theorem tkC_len (x : Tok) (s : Value) : (tkC x s).length = 4 := rfl
theorem TkCs.at : ∀ {l : List Tok} {cs : List Value}, TkCs l cs → ∀ {k : Nat} {x : Tok}, l[k]? = some x → ∃ a n c, ∀ j, j < 4 → cs[k * 4 + j]? = (tkC x (.slice a n c))[j]?
  | [], cs, h, k, x, hx => by simp at hx
  | y :: r, cs, h, k, x, hx => by
    obtain ⟨ua, un, uc, d, e, h2⟩ := h
    subst e
    cases k with
    | zero =>
      simp at hx
      subst hx
      exact ⟨ua, un, uc, fun j hj => by rw [Nat.zero_mul, Nat.zero_add, List.getElem?_append_left (by rw [tkC_len]; exact hj)]⟩
    | succ k =>
      simp at hx
      obtain ⟨sa, sn, sc, a3⟩ := TkCs.at h2 hx
      exact ⟨sa, sn, sc, fun j hj => by rw [List.getElem?_append_right (by rw [tkC_len]; omega), tkC_len, show (k + 1) * 4 + j - 4 = k * 4 + j by omega]; exact a3 j hj⟩
theorem TkCs.len : ∀ {l : List Tok} {cs : List Value}, TkCs l cs → cs.length = l.length * 4
  | [], cs, h => by
    have h : cs = [] := h
    subst h
    rfl
  | y :: r, cs, h => by
    obtain ⟨ua, un, uc, d, e, h2⟩ := h
    subst e
    rw [List.length_append, tkC_len, TkCs.len h2, List.length_cons]
    omega
theorem row4 {Q : Nat → Prop} {w : World} {v : Value} {n : Nat} {cs : List Value} (h : OwnC Q w v 4 n cs) (hl : cs.length = n * 4) (hn : 0 < n) : ∃ g c, v = .slice (some ⟨g, 0, none⟩) n c ∧ Q g ∧ ∀ k, k < n → ∀ j, j < 4 → w.cell? ⟨g, k * 4 + j, none⟩ = cs[k * 4 + j]? := by
  obtain ⟨g, c, e, hq, _, hc⟩ := h.at_ hn
  exact ⟨g, c, e, hq, fun k hk j hj => (hc (k * 4 + j) (by omega)).1⟩
end
section
open Go.RowKit
open M (OpD NodeD Gr)
def CarR (rb : Nat) (t : Tx) (r : Rv) (l rf th : List Tok) (A B N : Nat → Prop) (w : World) (e : Ending) (w' : World) : Prop :=
  Keep (fun b => b = rb) w w' ∧ ((∃ car l1 k sa sc i N', e = .returned (.bool (car : Option Tok).isSome) ∧ rdRule t.n l = rdBody t.n car l1 ∧ l1.length ≤ l.length ∧ (∀ b, N' b → N b ∨ New w w' b) ∧ RS rb t r k sa sc i l1 rf th A B N' w') ∨ (∃ x : Tok, rdRule t.n l = .inl x.at_ ∧ e = .panicked (flt 5 (x.at_ : Nat))))
theorem caret_rs {rb : Nat} {t : Tx} {r : Rv} {k : Tok} {sa : Option Addr} {sc i : Nat} {l rf th : List Tok} {A B N : Nat → Prop} {w : World} (h : RS rb t r k sa sc i l rf th A B N w) :
    Calls Tryz.prog 64 #[.pointer (some ⟨rb, 0, none⟩), .int .u8 94] w (CarR rb t r l rf th A B N w) := by
  refine (accept_rs h 94 (by omega) (by omega) (by omega)).mono ?_
  rintro e W (⟨h94, rfl, hw⟩ | ⟨h94, hk, l1, rfl, ⟨k1, sa1, sc1, i1, rfl, hS1⟩ | ⟨x, rfl, hx, rfl⟩⟩)
  · subst hw
    refine ⟨Keep.refl _ _, .inl ⟨none, l, k, sa, sc, i, N, rfl, ?_, Nat.le_refl _, fun b q => .inl q, h⟩⟩
    cases hl : l with
    | nil => rfl
    | cons y r' => simp only [rdRule]; rw [if_neg (by rw [h.head hl]; exact h94)]
  · refine ⟨hk, .inl ⟨some k, l1, k1, sa1, sc1, i1, _, rfl, ?_, by simp, fun b q => .inr q, hS1⟩⟩
    simp only [rdRule]
    rw [if_pos h94]
  · refine ⟨hk, .inr ⟨x, ?_, rfl⟩⟩
    simp only [rdRule]
    rw [if_pos h94, body_no (fun y r' e => by injection e with e1 _; rw [← e1, hx]; omega)]
    rfl
end
section
open Go.RowKit
open M (OpD NodeD Gr)
theorem ints_and {P Q : Nat → Prop} {w : World} {a : Option Addr} {n : Nat} {T : Nat → Int} (h : Ints P .u8 w a n T) (k : Ints Q .u8 w a n T) : Ints (fun b => P b ∧ Q b) .u8 w a n T := by
  rcases h with h | ⟨b, off, e, hq, h⟩
  · exact .inl h
  · rcases k with k | ⟨b', off', e', hq', k⟩
    · exact .inl k
    · rw [e] at e'
      injection e' with e'
      injection e' with e1 e2
      subst e1
      exact .inr ⟨b, off, e, ⟨hq, hq'⟩, h⟩
theorem RS.addDef {rb : Nat} {t : Tx} {r : Rv} {k : Tok} {sa : Option Addr} {sc i : Nat} {l rf th : List Tok} {A B N D : Nat → Prop} {w2 w3 : World} (h : RS rb t r k sa sc i l rf th A B N w2) {v' : Value} (hD : ∀ b, D b → b ≠ rb ∧ ¬ A b ∧ ¬ B b ∧ ¬ N b) (htx : Ints (fun b => ¬ D b) .u8 w2 r.ta t.n t.T) (hg : Grew (fun b => D b) w2 w3) :
    RS rb t { r with v6 := v' } k sa sc i l rf th A B N (w3.setCell ⟨rb, 6, none⟩ v') ∧ Ints (fun b => ¬ D b ∧ b < w2.heap.size) .u8 (w3.setCell ⟨rb, 6, none⟩ v') r.ta t.n t.T := by
  have hs := hg.size
  have hrb := h.blk.lt
  have hst : ∀ b, b < w2.heap.size → ¬ D b → b ≠ rb → (w3.setCell ⟨rb, 6, none⟩ v').heap[b]? = w2.heap[b]? := fun b h1 h2 h3 => (Below.heap_setCell _ _ _ _ h3).trans (hg.block b h1 h2)
  have hb3 : RB rb t (nextR r k sa sc) i w3 := (hg.block rb hrb (fun q => (hD rb q).1 rfl)).trans h.blk
  have htt := ints_stay (ints_and h.txt htx) (fun b q => hst b q.1.1 q.2 q.1.2.1)
  refine ⟨⟨blk_set v' hb3, h.set.on (fun b q => hst b (h.apt.set b q).1 (fun z => (hD b z).2.2.2 q) (h.apt.set b q).2), h.refs.on (fun b q => hst b (h.apt.rows b q).1 (fun z => (hD b z).2.1 q) (h.apt.rows b q).2.1) (fun b q => q), h.thrs.on (fun b q => hst b (h.apt.thrs b q).1 (fun z => (hD b z).2.2.1 q) (h.apt.thrs b q).2.1) (fun b q => q), h.left, ?_, h.cap, ⟨?_, ?_, ?_⟩, h.tok, h.kind, h.big, h.tn⟩, ?_⟩
  · exact ints_wide htt (fun b q => ⟨by have := q.1.1; simp only [size_set]; omega, q.1.2⟩)
  · exact fun b q => ⟨by have := (h.apt.rows b q).1; simp only [size_set]; omega, (h.apt.rows b q).2⟩
  · exact fun b q => ⟨by have := (h.apt.thrs b q).1; simp only [size_set]; omega, (h.apt.thrs b q).2⟩
  · exact fun b q => ⟨by have := (h.apt.set b q).1; simp only [size_set]; omega, (h.apt.set b q).2⟩
  · exact ints_wide htt (fun b q => ⟨q.2, q.1.1⟩)
theorem DS.add {rb : Nat} {t : Tx} {r : Rv} {l : List Tok} {qs : List Rl} {A B D T : Nat → Prop} {w6 w7 : World} {q : Rl} {v v' : Value} {P A4 B4 N5 : Nat → Prop} {k5 : Tok} {sa5 : Option Addr} {sc5 i5 : Nat} {cs : List Value}
    (hS : RS rb t r k5 sa5 sc5 i5 l (refTs qs ++ q.body.refT) (thrTs qs ++ q.body.thrT) A4 B4 N5 w6) (hcs : DfT w6 qs cs T) (hT : TrA w6 q.body v P) (hlen : qs.length + 1 + l.length ≤ 1000000)
    (hD : ∀ b, D b → b < w6.heap.size ∧ b ≠ rb ∧ ¬ A4 b ∧ ¬ B4 b ∧ ¬ N5 b ∧ ¬ T b ∧ ¬ P b) (hTa : ∀ b, T b → b < w6.heap.size ∧ b ≠ rb ∧ ¬ A4 b ∧ ¬ B4 b ∧ ¬ N5 b ∧ ¬ P b) (hP : ∀ b, P b → b < w6.heap.size ∧ b ≠ rb ∧ ¬ A4 b ∧ ¬ B4 b ∧ ¬ N5 b) (htx : Ints (fun b => ¬ D b) .u8 w6 r.ta t.n t.T)
    (ho : OwnC (fun b => D b ∨ w6.heap.size ≤ b) w7 v' 4 (qs.length + 1) (cs ++ dfC q v)) (hg : Grew (fun b => D b) w6 w7) :
    DS rb t { r with v6 := v' } k5 sa5 sc5 i5 l (qs ++ [q]) A4 B4 N5 (fun b => D b ∨ New w6 w7 b) (fun b => T b ∨ P b) (w7.setCell ⟨rb, 6, none⟩ v') := by
  have hs := hg.size
  have hrb := hS.blk.lt
  obtain ⟨h1, h2⟩ := hS.addDef (v' := v') (fun b z => ⟨(hD b z).2.1, (hD b z).2.2.1, (hD b z).2.2.2.1, (hD b z).2.2.2.2.1⟩) htx hg
  have hst : ∀ b, b < w6.heap.size → ¬ D b → b ≠ rb → (w7.setCell ⟨rb, 6, none⟩ v').heap[b]? = w6.heap[b]? := fun b h1 h2 h3 => (Below.heap_setCell _ _ _ _ h3).trans (hg.block b h1 h2)
  refine ⟨?_, ⟨cs ++ dfC q v, ?_, ?_⟩, ?_, ?_, ?_, ?_⟩
  · have e1 : refTs (qs ++ [q]) = refTs qs ++ q.body.refT := by unfold refTs; rw [List.flatMap_append]; simp
    have e2 : thrTs (qs ++ [q]) = thrTs qs ++ q.body.thrT := by unfold thrTs; rw [List.flatMap_append]; simp
    rw [e1, e2]
    exact h1
  · rw [List.length_append]
    refine (own_in ho).on (fun b z => Below.heap_setCell _ _ _ _ ?_)
    rcases z with z | z
    · exact (hD b z).2.1
    · have := z.1; show b ≠ rb; omega
  · refine (DfT.snoc hT hcs (fun b z => (hTa b z).2.2.2.2.2)).on (fun b z => ?_) (fun b z => z)
    rcases z with z | z
    · exact hst b (hTa b z).1 (fun y => (hD b y).2.2.2.2.2.1 z) (hTa b z).2.1
    · exact hst b (hP b z).1 (fun y => (hD b y).2.2.2.2.2.2 z) (hP b z).2.1
  · rw [List.length_append]; simp only [List.length_cons, List.length_nil]; omega
  · rintro b (z | z)
    · exact ⟨by have := (hD b z).1; simp only [size_set]; omega, (hD b z).2.1, (hD b z).2.2.1, (hD b z).2.2.2.1, (hD b z).2.2.2.2.1, fun y => y.elim (hD b z).2.2.2.2.2.1 (hD b z).2.2.2.2.2.2⟩
    · have hz := z.1
      exact ⟨by simp only [size_set]; exact z.2, by omega, fun y => by have := (hS.apt.rows b y).1; omega, fun y => by have := (hS.apt.thrs b y).1; omega, fun y => by have := (hS.apt.set b y).1; omega, fun y => y.elim (fun y => by have := (hTa b y).1; omega) (fun y => by have := (hP b y).1; omega)⟩
  · rintro b (z | z)
    · exact ⟨by have := (hTa b z).1; simp only [size_set]; omega, (hTa b z).2.1, (hTa b z).2.2.1, (hTa b z).2.2.2.1, (hTa b z).2.2.2.2.1⟩
    · exact ⟨by have := (hP b z).1; simp only [size_set]; omega, (hP b z).2⟩
  · exact ints_wide h2 (fun b z y => y.elim z.1 (fun y => by have := y.1; have := z.2; omega))
end
section
open Go.RowKit
open M (OpD NodeD Gr)
theorem rule_fin {rb : Nat} {t : Tx} {r : Rv} {k : Tok} {sa : Option Addr} {sc i : Nat} {l : List Tok} {qs : List Rl} {A B N D T : Nat → Prop} {w : World} (hD : DS rb t r k sa sc i l qs A B N D T w)
    {W3 W5 W6 : World} {l3 l5 : List Tok} {x : PE} {v v7 v8 : Value} {k5 : Tok} {sa5 : Option Addr} {sc5 i5 : Nat} {A4 B4 N3 N5 P : Nat → Prop} (hO : RdOK rb t r 0 l3 (refTs qs) (thrTs qs) A B N3 W3 x l5 v W5 v7 v8 k5 sa5 sc5 i5 A4 B4 N5 P)
    (hK : Keep (C3 rb A B) w W5) (h3 : w.heap.size ≤ W3.heap.size) (h35 : W3.heap.size ≤ W5.heap.size) (hN3 : ∀ b, N3 b → w.heap.size ≤ b ∧ b < W3.heap.size) (hN5 : ∀ b, N5 b → w.heap.size ≤ b) (hK6 : Keep (fun _ => False) W5 W6) (hl : l5.length + 1 ≤ l.length) :
    ∃ cs, OwnC D W6 r.v6 4 qs.length cs ∧ ∀ (q : Rl) (v' : Value) (W7 : World), q.body = x → OwnC (fun b => D b ∨ W6.heap.size ≤ b) W7 v' 4 (qs.length + 1) (cs ++ dfC q v) → Grew (fun b => D b) W6 W7 →
      DS rb t { r with v6 := v', v7 := v7, v8 := v8 } k5 sa5 sc5 i5 l5 (qs ++ [q]) A4 B4 N5 (fun b => D b ∨ New W6 W7 b) (fun b => T b ∨ P b) (W7.setCell ⟨rb, 6, none⟩ v') := by
  obtain ⟨cs, hc1, hc2⟩ := hD.row
  have h6 := hK6.size
  have hrb := hD.st.blk.lt
  have hst : ∀ b, b < w.heap.size → b ≠ rb → ¬ A b → ¬ B b → W6.heap[b]? = w.heap[b]? := fun b h1 h2 h3' h4 => (hK6.block b (by omega) (fun e => e)).trans (hK.block b h1 (fun q => by rcases q with q | q | q; exact h2 q; exact h3' q; exact h4 q))
  have hP0 : ∀ b, P b → w.heap.size ≤ b ∧ b < W5.heap.size := fun b q => by
    rcases (hO.rp b q).1 with z | z
    · have := hN3 b z; omega
    · have := z.1; have := z.2; omega
  have hA : ∀ b, b < w.heap.size → ¬ A b → ¬ A4 b := fun b h1 h2 q => (hO.ra b q).elim h2 (fun z => by have := z.1; omega)
  have hB : ∀ b, b < w.heap.size → ¬ B b → ¬ B4 b := fun b h1 h2 q => (hO.rb' b q).elim h2 (fun z => by have := z.1; omega)
  have hN : ∀ b, b < w.heap.size → ¬ N5 b := fun b h1 q => by have := hN5 b q; omega
  refine ⟨cs, hc1.on (fun b q => hst b (hD.da b q).1 (hD.da b q).2.1 (hD.da b q).2.2.1 (hD.da b q).2.2.2.1), fun q v' W7 hq ho hg => ?_⟩
  subst hq
  refine DS.add (r := { r with v7 := v7, v8 := v8 }) (A := A) (B := B) (hO.st.kept hK6) (hc2.on (fun b z => hst b (hD.ta b z).1 (hD.ta b z).2.1 (hD.ta b z).2.2.1 (hD.ta b z).2.2.2.1) (fun b z => z)) (TrA.on _ hO.tree (fun b z => hK6.block b (hP0 b z).2 (fun e => e)) (fun b z => z)) ?_ ?_ ?_ ?_ ?_ ho hg
  · have := hD.len; omega
  · exact fun b z => ⟨by have := (hD.da b z).1; omega, (hD.da b z).2.1, hA b (hD.da b z).1 (hD.da b z).2.2.1, hB b (hD.da b z).1 (hD.da b z).2.2.2.1, hN b (hD.da b z).1, (hD.da b z).2.2.2.2.2, fun y => by have := (hP0 b y).1; have := (hD.da b z).1; omega⟩
  · exact fun b z => ⟨by have := (hD.ta b z).1; omega, (hD.ta b z).2.1, hA b (hD.ta b z).1 (hD.ta b z).2.2.1, hB b (hD.ta b z).1 (hD.ta b z).2.2.2.1, hN b (hD.ta b z).1, fun y => by have := (hP0 b y).1; have := (hD.ta b z).1; omega⟩
  · exact fun b z => ⟨by have := (hP0 b z).2; omega, by have := (hP0 b z).1; omega, (hO.rp b z).2⟩
  · exact ints_wide (ints_stay (ints_and hD.st.txt hD.tx) (fun b z => hst b z.1.1 z.1.2.1 z.1.2.2.1 z.1.2.2.2)) (fun b z => z.2)
end
end Go.Proofs.YteoddjobpmmgeaaGreat
