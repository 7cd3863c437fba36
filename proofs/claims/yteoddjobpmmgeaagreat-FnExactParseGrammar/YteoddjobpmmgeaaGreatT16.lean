import Derived.Test.YteoddjobpmmgeaaGreatT15
set_option linter.unusedVariables false
set_option linter.unusedSimpArgs false
namespace Go.Proofs.YteoddjobpmmgeaaGreat
section
open Go.RowKit
open M (OpD NodeD Gr)
def ltB : List Int → List Int → Prop
  | _, [] => False
  | [], _ :: _ => True
  | x :: r, y :: s => x < y ∨ (x = y ∧ ltB r s)
theorem ltB_nil (a : List Int) : ¬ ltB a [] := by cases a <;> exact fun h => h
theorem ltB_irr : ∀ a, ¬ ltB a a
  | [] => fun h => h
  | x :: r => fun h => h.elim (fun q => by omega) (fun q => ltB_irr r q.2)
theorem ltB_tr : ∀ {a b c}, ltB a b → ltB b c → ltB a c
  | _, [], _, h, _ => absurd h (ltB_nil _)
  | _, _ :: _, [], _, h => absurd h (ltB_nil _)
  | [], _ :: _, _ :: _, _, _ => trivial
  | x :: a, y :: b, z :: c, h, k => by
    rcases h with h | ⟨h, h'⟩ <;> rcases k with k | ⟨k, k'⟩
    · exact .inl (by omega)
    · exact .inl (by omega)
    · exact .inl (by omega)
    · exact .inr ⟨by omega, ltB_tr h' k'⟩
theorem ltB_tot : ∀ a b, ltB a b ∨ a = b ∨ ltB b a
  | [], [] => .inr (.inl rfl)
  | [], _ :: _ => .inl trivial
  | _ :: _, [] => .inr (.inr trivial)
  | x :: a, y :: b => by
    rcases Int.lt_trichotomy x y with h | h | h
    · exact .inl (.inl h)
    · rcases ltB_tot a b with k | k | k
      · exact .inl (.inr ⟨h, k⟩)
      · exact .inr (.inl (by rw [h, k]))
      · exact .inr (.inr (.inr ⟨h.symm, k⟩))
    · exact .inr (.inr (.inl h))
theorem ltB_iff : ∀ a b, M.LessT a.length (lf a) b.length (lf b) ↔ ltB a b
  | a, [] => by
    constructor
    · rintro ⟨k, _, h1, h2, h | h⟩
      · simp at h
      · simp at h
    · exact fun h => absurd h (ltB_nil _)
  | [], y :: s => ⟨fun _ => trivial, fun _ => ⟨0, fun i hi => by omega, Nat.zero_le _, Nat.zero_le _, .inr ⟨rfl, by simp⟩⟩⟩
  | x :: r, y :: s => by
    constructor
    · rintro ⟨k, h0, h1, h2, h⟩
      cases k with
      | zero =>
        rcases h with ⟨_, _, h⟩ | ⟨h, _⟩
        · exact .inl h
        · simp at h
      | succ k =>
        refine .inr ⟨h0 0 (by omega), (ltB_iff r s).1 ⟨k, fun i hi => h0 (i + 1) (by omega), by simpa using h1, by simpa using h2, ?_⟩⟩
        rcases h with ⟨a1, a2, a3⟩ | ⟨a1, a2⟩
        · exact .inl ⟨by simpa using a1, by simpa using a2, a3⟩
        · exact .inr ⟨by simpa using a1, by simpa using a2⟩
    · rintro (h | ⟨h, h'⟩)
      · exact ⟨0, fun i hi => by omega, Nat.zero_le _, Nat.zero_le _, .inl ⟨by simp, by simp, h⟩⟩
      · obtain ⟨k, h0, h1, h2, h3⟩ := (ltB_iff r s).2 h'
        refine ⟨k + 1, fun i hi => ?_, by simpa using h1, by simpa using h2, ?_⟩
        · cases i with
          | zero => exact h
          | succ i => exact h0 i (by omega)
        · rcases h3 with ⟨a1, a2, a3⟩ | ⟨a1, a2⟩
          · exact .inl ⟨by simpa using a1, by simpa using a2, a3⟩
          · exact .inr ⟨by simpa using a1, by simpa using a2⟩
def Asc : List (List Int) → Prop
  | [] => True
  | x :: r => (∀ y ∈ r, ltB x y) ∧ Asc r
theorem Asc.snoc : ∀ {l : List (List Int)} {z : List Int}, Asc l → (∀ y ∈ l, ltB y z) → Asc (l ++ [z])
  | [], z, _, _ => ⟨(fun y hy => by cases hy), trivial⟩
  | x :: r, z, h, k => ⟨fun y hy => by
      rcases List.mem_append.1 hy with q | q
      · exact h.1 y q
      · rw [List.mem_singleton.1 q]; exact k x (by simp), Asc.snoc h.2 (fun y hy => k y (by simp [hy]))⟩
theorem Asc.len : ∀ {l m : List (List Int)}, Asc l → (∀ z ∈ l, z ∈ m) → l.length ≤ m.length
  | [], m, _, _ => Nat.zero_le _
  | x :: l, m, h, k => by
    have hx := k x (by simp)
    have := Asc.len (m := m.erase x) h.2 (fun z hz => (List.mem_erase_of_ne (fun q => by subst q; exact ltB_irr z (h.1 z hz))).2 (k z (by simp [hz])))
    rw [List.length_erase_of_mem hx] at this
    have : 0 < m.length := List.length_pos_of_mem hx
    simp only [List.length_cons]
    omega
def afterC : List Tok → List (List Int)
  | [] => []
  | [_] => []
  | x :: y :: r => (if x.kind = 94 then [y.nm] else []) ++ afterC (y :: r)
def labsOf (q : Rl) : List (List Int) := (if q.car.isSome then [q.name.nm] else []) ++ afterC q.body.tk
def labsAll (qs : List Rl) : List (List Int) := qs.flatMap labsOf
theorem afterC_step {l : List Tok} {j : Nat} {x y : Tok} (hx : l[j]? = some x) (hy : l[j + 1]? = some y) : afterC (l.drop j) = (if x.kind = 94 then [y.nm] else []) ++ afterC (l.drop (j + 1)) := by
  rw [drop_cons hx, drop_cons hy, afterC]
theorem afterC_end {l : List Tok} {j : Nat} (h : l.length ≤ j + 1) : afterC (l.drop j) = [] := by
  by_cases hj : j < l.length
  · have e : l.drop j = [l[j]] := by rw [List.drop_eq_getElem_cons hj, List.drop_of_length_le h]
    rw [e, afterC]
  · rw [List.drop_of_length_le (by omega), afterC]
theorem afterC_mem : ∀ {l : List Tok} {z : List Int}, z ∈ afterC l → ∃ t ∈ l, t.nm = z
  | [], _, h => by cases h
  | [_], _, h => by cases h
  | x :: y :: r, z, h => by
    rw [afterC] at h
    rcases List.mem_append.1 h with q | q
    · split at q
      · exact ⟨y, by simp, (List.mem_singleton.1 q).symm⟩
      · cases q
    · obtain ⟨t, h1, h2⟩ := afterC_mem q
      exact ⟨t, List.mem_cons_of_mem _ h1, h2⟩
theorem afterC_len : ∀ l : List Tok, (afterC l).length ≤ l.length
  | [] => Nat.le_refl _
  | [_] => Nat.zero_le _
  | x :: y :: r => by
    have := afterC_len (y :: r)
    rw [afterC, List.length_append]
    split <;> simp at this ⊢ <;> omega
end
section
open Go.RowKit
open M (OpD NodeD Gr)
structure NC where
  z : List Int
  a : Option Addr
  c : Nat
def ncv (x : NC) : List Value := [.slice x.a x.z.length x.c]
theorem ncv_len (x : NC) : (ncv x).length = 1 := rfl
theorem info22 : (Tryz.prog.info? 22).map (fun i => (i.zero, i.size, i.bytes)) = some (some (.slice none 0 0), 1, 24) := by kernel_rfl
theorem elem45 : ElemT 45 22 1 24 := ⟨Tryz.underlying45, ⟨_, info22, rfl⟩, by omega⟩
structure NmP (w wr : World) (v : Value) (L : List NC) (P : Nat → Prop) : Prop where
  own : OwnC P wr v 1 L.length (L.flatMap ncv)
  new : ∀ b, P b → New w wr b
  nm : ∀ x ∈ L, Ints (fun b => b < wr.heap.size ∧ ¬ P b) .u8 wr x.a x.z.length (lf x.z)
  keep : Keep (fun _ => False) w wr
def NmR (w wr : World) (v : Value) (L : List NC) : Prop := ∃ P, NmP w wr v L P
theorem NmR.nil {w wr : World} (h : Keep (fun _ => False) w wr) : NmR w wr (.slice none 0 0) [] :=
  ⟨fun _ => False, .inl ⟨rfl, rfl, rfl⟩, fun _ q => q.elim, (fun x hx => by cases hx), h⟩
theorem NmR.shape {w wr : World} {v : Value} {l : List NC} (h : NmR w wr v l) : ∃ a c, v = .slice a l.length c := by
  obtain ⟨P, h⟩ := h
  exact own_shape h.own
theorem NmR.keep {w wr : World} {v : Value} {l : List NC} (h : NmR w wr v l) : Keep (fun _ => False) w wr := by
  obtain ⟨P, h⟩ := h
  exact h.keep
theorem nmP_snoc {w wr W W1 W5 : World} {v v5 : Value} {l : List NC} {x : NC} {P : Nat → Prop} (h : NmP w wr v l P) (k1 : Keep (fun _ => False) wr W) (k2 : Keep (fun _ => False) W W1)
    (hn : Ints (fun b => b < W.heap.size ∧ ¬ P b) .u8 W x.a x.z.length (lf x.z))
    (hown : OwnC (fun b => P b ∨ W1.heap.size ≤ b) W5 v5 1 (l.length + 1) (l.flatMap ncv ++ ncv x)) (hg : Grew P W1 W5) : NmR w W5 v5 (l ++ [x]) := by
  have z0 := h.keep.size
  have z1 := k1.size
  have z2 := k2.size
  have z3 := hg.size
  refine ⟨fun b => (P b ∨ W1.heap.size ≤ b) ∧ b < W5.heap.size, ?_, ?_, ?_, keep_new ((h.keep.trans k1).trans k2) hg (fun b q => (h.new b q).1)⟩
  · have e : (l ++ [x]).flatMap ncv = l.flatMap ncv ++ ncv x := by simp
    rw [e, List.length_append, List.length_singleton]
    rcases hown with ⟨_, q, _⟩ | ⟨b, cap, e, hq, h3, h4, h5, h6⟩
    · omega
    refine .inr ⟨b, cap, e, ⟨hq, ?_⟩, h3, h4, h5, h6⟩
    obtain ⟨u, hu⟩ := Option.isSome_iff_exists.1 (h6 0 (by omega)).1
    exact lt_of_cell hu
  · rintro b ⟨q | q, hlt⟩
    · exact ⟨(h.new b q).1, hlt⟩
    · exact ⟨by omega, hlt⟩
  · intro y hy
    rcases List.mem_append.1 hy with q | q
    · have a1 := h.nm y q
      have st : Stay (fun b => b < wr.heap.size ∧ ¬ P b) wr W5 := fun b hb => (hg.block b (by have := hb.1; omega) hb.2).trans ((k2.block b (by have := hb.1; omega) (fun e => e)).trans (k1.block b hb.1 (fun e => e)))
      exact (a1.on st).wide (fun b hb => ⟨by have := hb.1; omega, fun r => r.1.elim hb.2 (fun r => by have := hb.1; omega)⟩)
    · obtain rfl := List.mem_singleton.1 q
      have st : Stay (fun b => b < W.heap.size ∧ ¬ P b) W W5 := fun b hb => (hg.block b (by have := hb.1; omega) hb.2).trans (k2.block b hb.1 (fun e => e))
      exact (hn.on st).wide (fun b hb => ⟨by have := hb.1; omega, fun r => r.1.elim hb.2 (fun r => by have := hb.1; omega)⟩)
theorem NmP.cells {w wr : World} {a : Option Addr} {n c : Nat} {L : List NC} {P : Nat → Prop} (h : NmP w wr (.slice a n c) L P) {i : Nat} {x : NC} (hx : L[i]? = some x) : ∃ b, a = some ⟨b, 0, none⟩ ∧ P b ∧ wr.cell? ⟨b, i, none⟩ = some (.slice x.a x.z.length x.c) := by
  have hil := (List.getElem?_eq_some_iff.1 hx).1
  rcases h.own with ⟨_, q, _⟩ | ⟨g, cap, e, hq, h3, h4, h5, h6⟩
  · omega
  injection e with e1 e2 e3
  subst e1
  have hlen := flat_len ncv 1 ncv_len L
  refine ⟨g, rfl, hq, ?_⟩
  have := flat_get ncv 1 ncv_len L i 0 x hx (by omega)
  rw [Nat.mul_one, Nat.add_zero] at this
  rw [h5 i (by rw [hlen]; omega), this]
  rfl
theorem NmR.read {w wr : World} {a : Option Addr} {n c : Nat} {L : List NC} (h : NmR w wr (.slice a n c) L) : NmsA (fun b => b < wr.heap.size) wr a (L.map (·.z)) := by
  obtain ⟨P, h⟩ := h
  cases L with
  | nil => exact .inl rfl
  | cons y r =>
    obtain ⟨g, rfl, _, _⟩ := h.cells (i := 0) (x := y) rfl
    refine .inr ⟨g, 0, rfl, fun i z hz => ?_⟩
    rw [List.getElem?_map] at hz
    obtain ⟨x, hx, rfl⟩ := Option.map_eq_some_iff.1 hz
    obtain ⟨g', e, hq, hc⟩ := h.cells hx
    obtain rfl : g = g' := by injection e with e; injection e
    exact ⟨x.a, x.c, by rw [Nat.zero_add]; exact hc, (h.nm x (List.mem_of_getElem? hx)).wide (fun b hb => hb.1)⟩
theorem src_nc (W : World) (x : NC) {ty : TypeId} : Src Tryz.prog 1 45 (.slice (some ⟨W.heap.size, 0, none⟩) 1 1) 1 (ncv x) (W.alloc (.cells #[.slice x.a x.z.length x.c] ty)) :=
  src_cells Tryz.underlying45 rfl (fun j u hu => by
    have hb := World.alloc_heap_new W (.cells #[.slice x.a x.z.length x.c] ty)
    simp only [World.cell?, hb]
    rw [← hu]
    simp [ncv]) (fun u hu => by
    simp only [ncv, List.mem_cons, List.not_mem_nil, or_false] at hu
    subst hu
    rfl)
theorem Ints.of {Q : Nat → Prop} {k : IntKind} {w : World} {a : Option Addr} {n : Nat} {S : Nat → Int} (h : Ints Q k w a n S) : Ints (fun b => b < w.heap.size) k w a n S := by
  rcases h with h | ⟨b, off, e, hq, h⟩
  · exact .inl h
  · by_cases hn : n = 0
    · exact .inl hn
    · exact .inr ⟨b, off, e, lt_of_cell (h 0 (by omega)), h⟩
theorem nmP_old {Q : Nat → Prop} {w wr W1 W5 : World} {v v5 : Value} {l : List NC} {x : NC} {P : Nat → Prop} (h : NmP w wr v l P) (k : Keep (fun _ => False) wr W1) (hn : Ints Q .u8 w x.a x.z.length (lf x.z))
    (hown : OwnC (fun b => P b ∨ W1.heap.size ≤ b) W5 v5 1 (l.length + 1) (l.flatMap ncv ++ ncv x)) (hg : Grew P W1 W5) : NmR w W5 v5 (l ++ [x]) :=
  nmP_snoc h (Keep.refl _ _) k ((hn.of.later h.keep.bel).wide (fun b hb => ⟨Nat.lt_of_lt_of_le hb h.keep.size, fun q => by have := (h.new b q).1; omega⟩)) hown hg
def lenV : Value → Nat
  | .slice _ n _ => n
  | _ => 0
theorem nmA {ops : Array Oper} {rest : List Oper} {o : Oper} {a : Act} {P' : Exit → Act → World → Prop} {Q : Nat → Prop} {w wr W : World} (hgd : o.guard = none) (s x : Operand) (ho : o.op = .call { callee := .builtin .append, args := #[s, x], argTypes := #[45, 45] })
    {v : Value} {L : List NC} {y : NC} {ty : TypeId} (hs : a.eval s = v) (hx : a.eval x = .slice (some ⟨W.heap.size, 0, none⟩) 1 1) (hR : NmR w wr v L) (k : Keep (fun _ => False) wr W) (hy : Ints Q .u8 w y.a y.z.length (lf y.z)) (hlen : L.length ≤ 1048576)
    (h : ∀ a' c' W5, Hid (NmR w W5 (.slice a' (L.length + 1) c') (L ++ [y])) → wpList Tryz.prog ops P' rest (a.put o.dst (.slice a' (L.length + 1) c')) W5) : wpList Tryz.prog ops P' (o :: rest) a (W.alloc (.cells #[.slice y.a y.z.length y.c] ty)) := by
  obtain ⟨P, hP⟩ := hR
  have k2 : Keep (fun _ => False) wr (W.alloc (.cells #[.slice y.a y.z.length y.c] ty)) := k.trans (Keep.alloc _ _ _)
  refine appE hgd s x 45 45 ho hs hx elem45 (Q := P) (n := L.length) (cs := L.flatMap ncv) (m := 1) (news := ncv y) (hP.own.on (fun b hb => k2.block b (hP.new b hb).2 (fun q => q))) (src_nc W y) (by omega) ?_
  intro v5 W5 hown hgrew hsz
  obtain ⟨a5, c5, rfl⟩ := own_shape hown
  exact h a5 c5 W5 (nmP_old hP k2 hy hown hgrew)
theorem nmB {ops : Array Oper} {rest : List Oper} {o : Oper} {a : Act} {P' : Exit → Act → World → Prop} {w wr W : World} (hgd : o.guard = none) (s x : Operand) (ho : o.op = .call { callee := .builtin .append, args := #[s, x], argTypes := #[45, 45] })
    {v : Value} {L : List NC} {y : NC} {ty : TypeId} (hs : a.eval s = v) (hx : a.eval x = .slice (some ⟨W.heap.size, 0, none⟩) 1 1) (hR : NmR w wr v L) (k : Keep (fun _ => False) wr W) (hy : Ints (New wr W) .u8 W y.a y.z.length (lf y.z)) (hlen : L.length ≤ 1048576)
    (h : ∀ a' c' W5, Hid (NmR w W5 (.slice a' (L.length + 1) c') (L ++ [y])) → wpList Tryz.prog ops P' rest (a.put o.dst (.slice a' (L.length + 1) c')) W5) : wpList Tryz.prog ops P' (o :: rest) a (W.alloc (.cells #[.slice y.a y.z.length y.c] ty)) := by
  obtain ⟨P, hP⟩ := hR
  have k2 : Keep (fun _ => False) wr (W.alloc (.cells #[.slice y.a y.z.length y.c] ty)) := k.trans (Keep.alloc _ _ _)
  refine appE hgd s x 45 45 ho hs hx elem45 (Q := P) (n := L.length) (cs := L.flatMap ncv) (m := 1) (news := ncv y) (hP.own.on (fun b hb => k2.block b (hP.new b hb).2 (fun q => q))) (src_nc W y) (by omega) ?_
  intro v5 W5 hown hgrew hsz
  obtain ⟨a5, c5, rfl⟩ := own_shape hown
  exact h a5 c5 W5 (nmP_snoc hP k (Keep.alloc _ _ _) (hy.wide (fun b hb => ⟨hb.2, fun q => by have := (hP.new b q).2; have := hb.1; omega⟩)) hown hgrew)
theorem clnA {ops : Array Oper} {rest : List Oper} {o : Oper} {a : Act} {P' : Exit → Act → World → Prop} {Q : Nat → Prop} {W : World} (hgd : o.guard = none) (s x : Operand) (ho : o.op = .call { callee := .builtin .append, args := #[s, x], argTypes := #[22, 22] })
    {ya : Option Addr} {yc : Nat} {z : List Int} {ty : TypeId} (hs : a.eval s = .slice (some ⟨W.heap.size, 0, none⟩) 0 0) (hx : a.eval x = .slice ya z.length yc) (hI : Ints Q .u8 W ya z.length (lf z)) (hlen : z.length ≤ 1048576)
    (h : ∀ a' c' W3, Hid (Ints (New W W3) .u8 W3 a' z.length (lf z)) → Hid (Keep (fun _ => False) W W3) → wpList Tryz.prog ops P' rest (a.put o.dst (.slice a' z.length c')) W3) : wpList Tryz.prog ops P' (o :: rest) a (W.alloc (.cells #[] ty)) := by
  refine appE hgd s x 22 22 ho hs hx elem22 (Q := fun b => b = W.heap.size) (n := 0) (cs := []) (m := z.length) (news := intVs .u8 (lf z) z.length) (.inr ⟨W.heap.size, 0, rfl, rfl, rfl, Nat.le_refl _, (fun j hj => by simp at hj), (fun j hj => by omega)⟩) (Ints.srcD Tryz.underlying22 (hI.later (bel1 W _))) (by omega) ?_
  intro v3 W3 hown hgrew hsz
  rw [Nat.zero_add, List.nil_append] at hown
  obtain ⟨a3, c3, rfl⟩ := own_shape hown
  have zz : W.heap.size + 1 ≤ W3.heap.size := by have := hgrew.size; simpa using this
  have hk : Keep (fun _ => False) W W3 := keep_new (Keep.alloc _ _ _) hgrew (fun b q => by rw [q]; exact Nat.le_refl _)
  refine h a3 c3 W3 ?_ hk
  by_cases hz : z.length = 0
  · exact .inl hz
  · have hi := own_lists hown
    have hi2 := hi.of
    rcases hi with q | ⟨g, off, e, hq, h5⟩
    · exact absurd q hz
    · refine .inr ⟨g, off, e, ⟨?_, lt_of_cell (h5 0 (by omega))⟩, h5⟩
      rcases hq with q | q
      · omega
      · have q : W.heap.size + 1 ≤ g := by simpa using q
        omega
theorem lessC {Q Q' : Nat → Prop} {V : World} {x y : NC} {r : Bool} (hx : Ints Q .u8 V x.a x.z.length (lf x.z)) (hy : Ints Q' .u8 V y.a y.z.length (lf y.z)) (bx : BytL x.z) (bY : BytL y.z) (hr : r = true ↔ ltB x.z y.z) (d : Nat) :
    Calls Tryz.prog 33 #[.slice x.a x.z.length x.c, .slice y.a y.z.length y.c] (V.drewN d) fun e w' => e = .returned (.bool r) ∧ w' = V.drewN d :=
  (l2less_any (fun _ => True) x.a y.a x.z.length x.c y.z.length y.c (lf x.z) (lf y.z) _ ((hx.later (below_drewN (Below.refl _ V) d)).wide (fun _ _ => trivial)) ((hy.later (below_drewN (Below.refl _ V) d)).wide (fun _ _ => trivial)) bx.byt bY.byt).mono (fun e W h => by
    obtain ⟨⟨r', rfl, hr'⟩, rfl⟩ := h
    rw [ltB_iff] at hr'
    obtain rfl : r' = r := by
      cases r <;> cases r' <;> simp_all
    exact ⟨rfl, rfl⟩)
def labI (w : World) (qs : List Rl) (v u : Value) (wr : World) : Prop :=
  ∃ (done rest : List Rl) (L : List NC), qs = done ++ rest ∧ u = .int .i64 (done.length : Nat) ∧ L.map (·.z) = labsAll done ∧ NmR w wr v L
def labJ (w : World) (l : List Tok) (R : List (List Int)) (v u : Value) (wr : World) : Prop :=
  ∃ (j : Nat) (L : List NC), 1 ≤ j ∧ j ≤ l.length + 1 ∧ u = .int .i64 (j : Nat) ∧ L.map (·.z) ++ afterC (l.drop (j - 1)) = R ∧ NmR w wr v L
theorem labsAll_len : ∀ qs : List Rl, (labsAll qs).length ≤ (qs.flatMap Rl.tk).length
  | [] => Nat.le_refl _
  | q :: qs => by
    have h1 := labsAll_len qs
    have h2 := afterC_len q.body.tk
    have h3 := q.len
    have h4 : (labsOf q).length ≤ q.tk.length := by
      unfold labsOf
      rw [List.length_append]
      split <;> simp <;> omega
    simp only [labsAll, List.flatMap_cons, List.length_append] at h1 ⊢
    omega
theorem Asc.last : ∀ {l : List (List Int)} {x : List Int}, Asc (l ++ [x]) → ∀ y ∈ l, ltB y x
  | [], x, _, y, hy => by cases hy
  | u :: l, x, h, y, hy => by
    rcases List.mem_cons.1 hy with rfl | q
    · exact h.1 x (by simp)
    · exact Asc.last h.2 y q
def cand (out : List (List Int)) (z : List Int) : Prop := ∀ y, out.getLast? = some y → ltB y z
theorem cand_all {out : List (List Int)} {z : List Int} (h : Asc out) (hc : cand out z) : ∀ y ∈ out, ltB y z := by
  intro y hy
  rcases List.eq_nil_or_concat out with e | ⟨l, x, e⟩
  · subst e; cases hy
  · subst e
    rw [List.concat_eq_append] at *
    have hx := hc x (by simp)
    rcases List.mem_append.1 hy with q | q
    · exact ltB_tr (h.last y q) hx
    · rw [List.mem_singleton.1 q]; exact hx
structure OutOK (all out : List (List Int)) : Prop where
  asc : Asc out
  sub : ∀ z ∈ out, z ∈ all
  far : ∀ z ∈ all, z ∉ out → ∀ y ∈ out, ltB y z
theorem OutOK.cand {all out : List (List Int)} (h : OutOK all out) {z : List Int} (hz : z ∈ all) (hn : z ∉ out) : cand out z := fun y hy => h.far z hz hn y (List.mem_of_getLast? hy)
def BestOK (all out : List (List Int)) (i : Nat) : Option Nat → Prop
  | none => ∀ j z, j < i → all[j]? = some z → ¬ cand out z
  | some k => k < i ∧ ∃ m, all[k]? = some m ∧ cand out m ∧ ∀ j z, j < i → all[j]? = some z → cand out z → ¬ ltB z m
theorem BestOK.skip {all out : List (List Int)} {i : Nat} {k : Option Nat} {z : List Int} (h : BestOK all out i k) (hz : all[i]? = some z) (hc : ¬ cand out z) : BestOK all out (i + 1) k := by
  have key : ∀ j, j < i + 1 → j < i ∨ j = i := fun j hj => by omega
  cases k with
  | none =>
    intro j y hj hy
    rcases key j hj with q | rfl
    · exact h j y q hy
    · rw [hz] at hy; injection hy with e; subst e; exact hc
  | some k =>
    obtain ⟨h1, m, h2, h3, h4⟩ := h
    refine ⟨by omega, m, h2, h3, fun j y hj hy hcy => ?_⟩
    rcases key j hj with q | rfl
    · exact h4 j y q hy hcy
    · rw [hz] at hy; injection hy with e; subst e; exact absurd hcy hc
theorem BestOK.first {all out : List (List Int)} {i : Nat} {z : List Int} (h : BestOK all out i none) (hz : all[i]? = some z) (hc : cand out z) : BestOK all out (i + 1) (some i) :=
  ⟨by omega, z, hz, hc, fun j y hj hy hcy => by
    by_cases e : j = i
    · subst e; rw [hz] at hy; injection hy with e; subst e; exact ltB_irr _
    · exact absurd hcy (h j y (by omega) hy)⟩
theorem BestOK.less {all out : List (List Int)} {i k : Nat} {z m : List Int} (h : BestOK all out i (some k)) (hm : all[k]? = some m) (hz : all[i]? = some z) (hc : cand out z) (hl : ltB z m) : BestOK all out (i + 1) (some i) := by
  obtain ⟨h1, m', h2, h3, h4⟩ := h
  rw [hm] at h2; injection h2 with e; subst e
  refine ⟨by omega, z, hz, hc, fun j y hj hy hcy hlt => ?_⟩
  by_cases e : j = i
  · subst e; rw [hz] at hy; injection hy with e; subst e; exact ltB_irr _ hlt
  · exact h4 j y (by omega) hy hcy (ltB_tr hlt hl)
theorem BestOK.more {all out : List (List Int)} {i k : Nat} {z m : List Int} (h : BestOK all out i (some k)) (hm : all[k]? = some m) (hz : all[i]? = some z) (hl : ¬ ltB z m) : BestOK all out (i + 1) (some k) := by
  obtain ⟨h1, m', h2, h3, h4⟩ := h
  rw [hm] at h2; injection h2 with e; subst e
  refine ⟨by omega, m, hm, h3, fun j y hj hy hcy => ?_⟩
  by_cases e : j = i
  · subst e; rw [hz] at hy; injection hy with e; subst e; exact hl
  · exact h4 j y (by omega) hy hcy
theorem OutOK.done {all out : List (List Int)} (h : OutOK all out) (hb : BestOK all out all.length none) : ∀ z, z ∈ out ↔ z ∈ all := fun z => by
  refine ⟨h.sub z, fun hz => Classical.byContradiction fun hn => ?_⟩
  obtain ⟨j, hj⟩ := List.getElem?_of_mem hz
  exact hb j z (List.getElem?_eq_some_iff.1 hj).1 hj (h.cand hz hn)
theorem OutOK.snoc {all out : List (List Int)} {k : Nat} {m : List Int} (h : OutOK all out) (hb : BestOK all out all.length (some k)) (hm : all[k]? = some m) : OutOK all (out ++ [m]) := by
  obtain ⟨h1, m', h2, h3, h4⟩ := hb
  rw [hm] at h2; injection h2 with e; subst e
  have hca := cand_all h.asc h3
  refine ⟨h.asc.snoc hca, fun z hz => ?_, fun z hz hn y hy => ?_⟩
  · rcases List.mem_append.1 hz with q | q
    · exact h.sub z q
    · rw [List.mem_singleton.1 q]; exact List.mem_of_getElem? hm
  · simp only [List.mem_append, List.mem_singleton, not_or] at hn
    rcases List.mem_append.1 hy with q | q
    · exact h.far z hz hn.1 y q
    · rw [List.mem_singleton.1 q]
      obtain ⟨j, hj⟩ := List.getElem?_of_mem hz
      rcases ltB_tot m z with r | r | r
      · exact r
      · exact absurd r.symm hn.2
      · exact absurd r (h4 j z (List.getElem?_eq_some_iff.1 hj).1 hj (h.cand hz hn.1))
def bestV : Option Nat → Int
  | none => -1
  | some k => k
def outI (w1 : World) (all : List (List Int)) (v : Value) (wr : World) : Prop := ∃ L : List NC, OutOK all (L.map (·.z)) ∧ NmR w1 wr v L
def bestI (wr : World) (all out : List (List Int)) (v7 v8 : Value) (w2 : World) : Prop := ∃ (i m : Nat) (k : Option Nat), i ≤ all.length ∧ v8 = .int .i64 (i : Nat) ∧ v7 = .int .i64 (bestV k) ∧ w2 = wr.drewN m ∧ BestOK all out i k
theorem cand_nil (z : List Int) : cand [] z := fun y hy => by simp at hy
theorem cand_snoc (l : List (List Int)) (x z : List Int) : cand (l ++ [x]) z ↔ ltB x z := by
  unfold cand
  simp
def LabsIs (all : List (List Int)) (w : World) (e : Ending) (w' : World) : Prop :=
  ∃ a c ls, e = .returned (.slice a ls.length c) ∧ Asc ls ∧ (∀ z, z ∈ ls ↔ z ∈ all) ∧ NmsA (fun b => b < w'.heap.size) w' a ls ∧ Keep (fun _ => False) w w'
set_option maxHeartbeats 1000000 in
set_option maxRecDepth 100000 in
theorem l2labels_any (Q : Nat → Prop) (qs : List Rl) (a : Option Addr) (c : Nat) (w : World) (hT : RlsA Q w a qs) (hl : (qs.flatMap Rl.tk).length ≤ 1000000) (hb : ∀ z ∈ labsAll qs, BytL z) (hzl : ∀ z ∈ labsAll qs, z.length ≤ 1000000) :
    Calls Tryz.prog 16 #[.slice a qs.length c] w (LabsIs (labsAll qs) w) := by
  have hll := labsAll_len qs
  have hql : qs.length ≤ (qs.flatMap Rl.tk).length := by
    clear hT hb hl hll hzl
    induction qs with
    | nil => simp
    | cons q qs ih => have := q.len; simp only [List.flatMap_cons, List.length_append, List.length_cons]; omega
  have hln : qs.length ≤ 1000000 := by omega
  have hal : (labsAll qs).length ≤ 1000000 := by omega
  have HB : Hid (∀ z ∈ labsAll qs, BytL z) := hb
  have HT : Hid (RlsA Q w a qs) := hT
  have HTL : Hid ((qs.flatMap Rl.tk).length ≤ 1000000) := hl
  have HZZ : Hid (∀ z ∈ labsAll qs, z.length ≤ 1000000) := hzl
  clear hT hb hl hll hql hzl
  go_enter Tryz.func16, Tryz.ntmps16
  go_wp2
  go_loopw [3, 4] (labI w qs) (fun _ u _ => qs.length - (intOf u).toNat)
  case atStart => exact ⟨[], qs, [], rfl, rfl, rfl, NmR.nil (Keep.refl _ _)⟩
  case round =>
    obtain ⟨done, rest, L, hq, rfl, hL, hR⟩ := hrel
    obtain ⟨va, vc, rfl⟩ := hR.shape
    cases rest with
    | nil =>
      have hdl : ¬ ((done.length : Nat) : Int) < qs.length := by rw [hq]; simp
      have HA : Hid (L.map (·.z) = labsAll qs) := by rw [hq, List.append_nil]; exact hL
      have HR : Hid (NmR w wr (.slice va L.length vc) L) := hR
      have HZ : Hid (∀ x ∈ L, BytL x.z) := fun x hx => HB.out x.z (by rw [← HA.out]; exact List.mem_map_of_mem hx)
      have HZL : Hid (∀ x ∈ L, x.z.length ≤ 1000000) := fun x hx => HZZ.out x.z (by rw [← HA.out]; exact List.mem_map_of_mem hx)
      clear HZZ
      have hLl : L.length ≤ 1000000 := by
        have := congrArg List.length HA.out
        rw [List.length_map] at this
        omega
      clear hq hL hR
      generalize labsAll qs = all at *
      go_wp2
      rename World => w1
      go_loopw [6] (outI w1 all) (fun v _ => all.length + 1 - lenV v)
      case atStart => exact ⟨[], ⟨trivial, (fun z hz => by cases hz), (fun z _ _ y hy => by cases hy)⟩, NmR.nil (Keep.refl _ _)⟩
      case round =>
        obtain ⟨L2, hO, hR2⟩ := hrel
        obtain ⟨oa, oc, rfl⟩ := hR2.shape
        have HO : Hid (OutOK all (L2.map (·.z))) := hO
        have HR2 : Hid (NmR w1 wr (.slice oa L2.length oc) L2) := hR2
        have KK : Hid (Keep (fun _ => False) w1 wr) := hR2.keep
        have hL2n : L2.length ≤ all.length := by
          have := hO.asc.len hO.sub
          rwa [List.length_map] at this
        have hAL : L.length = all.length := by rw [← HA.out, List.length_map]
        have HAL : Hid (L.length = all.length) := hAL
        obtain ⟨N2, hN2⟩ : ∃ N2, N2 = L2.length := ⟨_, rfl⟩
        rw [← hN2] at HR2 hL2n ⊢
        have HN2 : Hid (N2 = L2.length) := hN2
        clear hO hR2 hAL hN2
        go_wp2
        go_loopw [7, 8] (bestI wr all (L2.map (·.z))) (fun _ v8 _ => all.length - (intOf v8).toNat)
        case atStart => exact ⟨0, 0, none, Nat.zero_le _, rfl, rfl, rfl, (fun j z hj => absurd hj (by omega))⟩
        case round =>
          obtain ⟨i, m, k, hi, rfl, rfl, rfl, hB⟩ := hrel
          have HBK : Hid (BestOK all (L2.map (·.z)) i k) := hB
          clear hB
          obtain ⟨V, hV⟩ : ∃ V, wr.drewN m = V := ⟨_, rfl⟩
          have HVN : Hid (∀ n, ∃ q, V.drewN n = wr.drewN q) := fun n => ⟨m + n, by rw [← hV, World.drewN_drewN]⟩
          have HBW : Hid (Below wr.heap.size wr V) := by rw [← hV]; exact below_drewN (Below.refl _ wr) m
          have HVS : Hid (V.heap.size = wr.heap.size ∧ Keep (fun _ => False) wr V) := by rw [← hV]; exact ⟨by simp, keep_drewN wr m⟩
          have HBV : Hid (Below w1.heap.size w1 V) := bel_tr KK.out.bel HBW.out
          rw [hV]
          clear hV
          by_cases hlt : i < all.length
          · have hltL : (i : Int) < L.length := by have := HAL.out; omega
            have hltA : i < L.length := by have := HAL.out; omega
            obtain ⟨x, hx⟩ : ∃ x, L[i]? = some x := ⟨_, List.getElem?_eq_getElem hltA⟩
            have HZI : Hid (all[i]? = some x.z) := by show _ = _; rw [← HA.out, List.getElem?_map, hx]; rfl
            obtain ⟨P, hP⟩ := HR.out
            obtain ⟨gb, rfl, _, c0⟩ := hP.cells hx
            have c0' := cell_on c0 HBV.out
            have HX : Hid (Ints (fun b => b < w1.heap.size ∧ ¬ P b) .u8 V x.a x.z.length (lf x.z)) := (hP.nm x (List.mem_of_getElem? hx)).later HBV.out
            have BX : Hid (BytL x.z) := HZ.out x (List.mem_of_getElem? hx)
            have HFIN : Hid (∀ n k', BestOK all (L2.map (·.z)) (i + 1) k' → bestI wr all (L2.map (·.z)) (.int .i64 (bestV k')) (.int .i64 ((i : Int) + 1)) (V.drewN n)) := fun n k' hk => by
              obtain ⟨q, hq⟩ := HVN.out n
              exact ⟨i + 1, q, k', hlt, by simp, rfl, hq, hk⟩
            clear hP c0 hx
            rcases List.eq_nil_or_concat L2 with hnil | ⟨l, y, hcon⟩
            · have HCA : Hid (cand (L2.map (·.z)) x.z) := by rw [hnil]; exact cand_nil _
              obtain rfl : N2 = 0 := by rw [HN2.out, hnil]; rfl
              clear hnil
              go_upto_region 17 with fail
              go_quiet (fail)
              go_upto_region 18 with fail
              obtain ⟨V2, hV2⟩ : ∃ V2, V.drewN nq = V2 := ⟨_, rfl⟩
              have HBB : Hid (Below V.heap.size V V2) := by rw [← hV2]; exact below_drewN (Below.refl _ V) nq
              have HFIN2 : Hid (∀ n k', BestOK all (L2.map (·.z)) (i + 1) k' → bestI wr all (L2.map (·.z)) (.int .i64 (bestV k')) (.int .i64 ((i : Int) + 1)) (V2.drewN n)) := fun n k' hk => by rw [← hV2, World.drewN_drewN]; exact HFIN.out _ _ hk
              rw [hV2]
              clear hV2
              have c0'' := cell_on c0' HBB.out
              clear c0'
              cases k with
              | none =>
                (try simp only [bestV])
                have HB2 : Hid (BestOK all (L2.map (·.z)) (i + 1) (some i)) := BestOK.first HBK.out HZI.out HCA.out
                clear HBK
                go_quiet (fail)
                go_wp2
                go_roundw
                all_goals first
                  | exact (HFIN2.out _ (some i) HB2.out)
                  | (simp [intOf]; omega)
              | some kk =>
                (try simp only [bestV])
                obtain ⟨hk1, mm, hm1, hm2, hm3⟩ := HBK.out
                rw [← HA.out, List.getElem?_map] at hm1
                obtain ⟨y, hy, rfl⟩ := Option.map_eq_some_iff.1 hm1
                have HMK : Hid (all[kk]? = some y.z) := by show _ = _; rw [← HA.out, List.getElem?_map, hy]; rfl
                obtain ⟨P, hP⟩ := HR.out
                obtain ⟨gb', e', _, c1⟩ := hP.cells hy
                obtain rfl : gb = gb' := by injection e' with e'; injection e'
                have c1' := cell_on c1 (bel_tr HBV.out HBB.out)
                have HY : Hid (Ints (fun b => b < w1.heap.size ∧ ¬ P b) .u8 V2 y.a y.z.length (lf y.z)) := (hP.nm y (List.mem_of_getElem? hy)).later (bel_tr HBV.out HBB.out)
                have BY : Hid (BytL y.z) := HZ.out y (List.mem_of_getElem? hy)
                have hkL : (kk : Int) < L.length := by omega
                have hk0 : ¬ (kk : Int) < 0 := by omega
                clear hP e' c1 hm1 hm2 hm3 hy
                by_cases hlt3 : ltB x.z y.z
                · have HB2 : Hid (BestOK all (L2.map (·.z)) (i + 1) (some i)) := BestOK.less HBK.out HMK.out HZI.out HCA.out hlt3
                  have HC : Hid (∀ d, Calls Tryz.prog 33 #[.slice x.a x.z.length x.c, .slice y.a y.z.length y.c] (V2.drewN d) fun e w' => e = .returned (.bool true) ∧ w' = V2.drewN d) := lessC (HX.out.later HBB.out) HY.out BX.out BY.out ⟨fun _ => hlt3, fun _ => rfl⟩
                  clear HBK hlt3
                  go_quiet (first | (go_at_call 33; exact Calls.quiet_of_same (HC.out _)))
                  go_wp2
                  go_roundw
                  all_goals first
                    | exact (HFIN2.out _ (some i) HB2.out)
                    | (simp [intOf]; omega)
                · have HB2 : Hid (BestOK all (L2.map (·.z)) (i + 1) (some kk)) := BestOK.more HBK.out HMK.out HZI.out hlt3
                  have HC : Hid (∀ d, Calls Tryz.prog 33 #[.slice x.a x.z.length x.c, .slice y.a y.z.length y.c] (V2.drewN d) fun e w' => e = .returned (.bool false) ∧ w' = V2.drewN d) := lessC (HX.out.later HBB.out) HY.out BX.out BY.out ⟨fun q => absurd q (by decide), fun q => absurd q hlt3⟩
                  clear HBK hlt3
                  go_quiet (first | (go_at_call 33; exact Calls.quiet_of_same (HC.out _)))
                  go_wp2
                  go_roundw
                  all_goals first
                    | exact (HFIN2.out _ (some kk) HB2.out)
                    | (simp [intOf]; omega)
            · rw [List.concat_eq_append] at hcon
              have hyL : L2[l.length]? = some y := by rw [hcon]; simp
              obtain ⟨P2, hP2⟩ := HR2.out
              obtain ⟨go, rfl, _, d0⟩ := hP2.cells hyL
              have d0' := cell_on d0 HBW.out
              have HOY : Hid (Ints (fun b => b < wr.heap.size ∧ ¬ P2 b) .u8 V y.a y.z.length (lf y.z)) := (hP2.nm y (List.mem_of_getElem? hyL)).later HBW.out
              have BOY : Hid (BytL y.z) := HB.out _ (HO.out.sub _ (List.mem_map_of_mem (List.mem_of_getElem? hyL)))
              have HCI : Hid (cand (L2.map (·.z)) x.z ↔ ltB y.z x.z) := by
                show _ ↔ _
                rw [hcon, List.map_append]
                exact cand_snoc _ _ _
              have hpos : (N2 : Int) > 0 := by rw [HN2.out, hcon]; simp only [List.length_append, List.length_singleton]; omega
              have hpos2 : decide ((N2 : Int) > 0) = true := decide_eq_true hpos
              have hpos3 : decide ((0 : Int) < (N2 : Int)) = true := decide_eq_true hpos
              have hpos4 : 0 < N2 := by omega
              have hpos5 : decide (0 < N2) = true := decide_eq_true hpos4
              have hsubw : IntKind.i64.wrap ((N2 : Int) - 1) = (l.length : Nat) := by
                rw [show (N2 : Int) - 1 = (l.length : Nat) by rw [HN2.out, hcon]; simp]
                exact wrapI (by omega) (by have := congrArg List.length hcon; have := HN2.out; simp only [List.length_append, List.length_singleton] at *; omega)
              have hsub : (N2 : Int) - 1 = (l.length : Nat) := by rw [HN2.out, hcon]; simp
              have hll : (l.length : Int) < N2 := by rw [HN2.out, hcon]; simp only [List.length_append, List.length_singleton]; omega
              clear hP2 d0 hyL hcon
              by_cases hcl : ltB y.z x.z
              · have HCA : Hid (cand (L2.map (·.z)) x.z) := HCI.out.2 hcl
                have HC : Hid (∀ d, Calls Tryz.prog 33 #[.slice y.a y.z.length y.c, .slice x.a x.z.length x.c] (V.drewN d) fun e w' => e = .returned (.bool true) ∧ w' = V.drewN d) := lessC HOY.out HX.out BOY.out BX.out ⟨fun _ => hcl, fun _ => rfl⟩
                clear hcl HCI
                go_upto_region 17 with fail
                go_quiet (first | (go_at_call 33; exact Calls.quiet_of_same (HC.out _)))
                clear HC HOY BOY d0' hsub hll
                go_upto_region 18 with fail
                obtain ⟨V2, hV2⟩ : ∃ V2, V.drewN nq = V2 := ⟨_, rfl⟩
                have HBB : Hid (Below V.heap.size V V2) := by rw [← hV2]; exact below_drewN (Below.refl _ V) nq
                have HFIN2 : Hid (∀ n k', BestOK all (L2.map (·.z)) (i + 1) k' → bestI wr all (L2.map (·.z)) (.int .i64 (bestV k')) (.int .i64 ((i : Int) + 1)) (V2.drewN n)) := fun n k' hk => by rw [← hV2, World.drewN_drewN]; exact HFIN.out _ _ hk
                rw [hV2]
                clear hV2
                have c0'' := cell_on c0' HBB.out
                clear c0'
                cases k with
                | none =>
                  (try simp only [bestV])
                  have HB2 : Hid (BestOK all (L2.map (·.z)) (i + 1) (some i)) := BestOK.first HBK.out HZI.out HCA.out
                  clear HBK
                  go_quiet (fail)
                  go_wp2
                  go_roundw
                  all_goals first
                    | exact (HFIN2.out _ (some i) HB2.out)
                    | (simp [intOf]; omega)
                | some kk =>
                  (try simp only [bestV])
                  obtain ⟨hk1, mm, hm1, hm2, hm3⟩ := HBK.out
                  rw [← HA.out, List.getElem?_map] at hm1
                  obtain ⟨y, hy, rfl⟩ := Option.map_eq_some_iff.1 hm1
                  have HMK : Hid (all[kk]? = some y.z) := by show _ = _; rw [← HA.out, List.getElem?_map, hy]; rfl
                  obtain ⟨P, hP⟩ := HR.out
                  obtain ⟨gb', e', _, c1⟩ := hP.cells hy
                  obtain rfl : gb = gb' := by injection e' with e'; injection e'
                  have c1' := cell_on c1 (bel_tr HBV.out HBB.out)
                  have HY : Hid (Ints (fun b => b < w1.heap.size ∧ ¬ P b) .u8 V2 y.a y.z.length (lf y.z)) := (hP.nm y (List.mem_of_getElem? hy)).later (bel_tr HBV.out HBB.out)
                  have BY : Hid (BytL y.z) := HZ.out y (List.mem_of_getElem? hy)
                  have hkL : (kk : Int) < L.length := by omega
                  have hk0 : ¬ (kk : Int) < 0 := by omega
                  clear hP e' c1 hm1 hm2 hm3 hy
                  by_cases hlt3 : ltB x.z y.z
                  · have HB2 : Hid (BestOK all (L2.map (·.z)) (i + 1) (some i)) := BestOK.less HBK.out HMK.out HZI.out HCA.out hlt3
                    have HC : Hid (∀ d, Calls Tryz.prog 33 #[.slice x.a x.z.length x.c, .slice y.a y.z.length y.c] (V2.drewN d) fun e w' => e = .returned (.bool true) ∧ w' = V2.drewN d) := lessC (HX.out.later HBB.out) HY.out BX.out BY.out ⟨fun _ => hlt3, fun _ => rfl⟩
                    clear HBK hlt3
                    go_quiet (first | (go_at_call 33; exact Calls.quiet_of_same (HC.out _)))
                    go_wp2
                    go_roundw
                    all_goals first
                      | exact (HFIN2.out _ (some i) HB2.out)
                      | (simp [intOf]; omega)
                  · have HB2 : Hid (BestOK all (L2.map (·.z)) (i + 1) (some kk)) := BestOK.more HBK.out HMK.out HZI.out hlt3
                    have HC : Hid (∀ d, Calls Tryz.prog 33 #[.slice x.a x.z.length x.c, .slice y.a y.z.length y.c] (V2.drewN d) fun e w' => e = .returned (.bool false) ∧ w' = V2.drewN d) := lessC (HX.out.later HBB.out) HY.out BX.out BY.out ⟨fun q => absurd q (by decide), fun q => absurd q hlt3⟩
                    clear HBK hlt3
                    go_quiet (first | (go_at_call 33; exact Calls.quiet_of_same (HC.out _)))
                    go_wp2
                    go_roundw
                    all_goals first
                      | exact (HFIN2.out _ (some kk) HB2.out)
                      | (simp [intOf]; omega)
              · have HCN : Hid (BestOK all (L2.map (·.z)) (i + 1) k) := HBK.out.skip HZI.out (fun q => hcl (HCI.out.1 q))
                have HC : Hid (∀ d, Calls Tryz.prog 33 #[.slice y.a y.z.length y.c, .slice x.a x.z.length x.c] (V.drewN d) fun e w' => e = .returned (.bool false) ∧ w' = V.drewN d) := lessC HOY.out HX.out BOY.out BX.out ⟨fun q => absurd q (by decide), fun q => absurd q hcl⟩
                clear hcl HCI HBK
                go_upto_region 17 with fail
                go_quiet (first | (go_at_call 33; exact Calls.quiet_of_same (HC.out _)))
                go_wp2
                go_roundw
                all_goals first
                  | exact (HFIN.out _ k HCN.out)
                  | (simp [intOf]; omega)
          · have hlt' : ¬ (i : Int) < L.length := by have := HAL.out; omega
            have HI : Hid (i = all.length) := by show i = all.length; omega
            cases k with
            | none =>
              (try simp only [bestV])
              have HE : Hid (∀ z, z ∈ L2.map (·.z) ↔ z ∈ all) := HO.out.done (by have := HBK.out; rw [HI.out] at this; exact this)
              go_wp2
              go_ret
              have hr := HR2.out.read.later HBW.out
              rw [← HVS.out.1] at hr
              exact ⟨oa, oc, L2.map (·.z), by rw [List.length_map, ← HN2.out]; rfl, HO.out.asc, HE.out, hr, (HR.out.keep.trans KK.out).trans HVS.out.2⟩
            | some kk =>
              (try simp only [bestV])
              have hB := HBK.out
              rw [HI.out] at hB
              have HBB : Hid (BestOK all (L2.map (·.z)) all.length (some kk)) := hB
              obtain ⟨hk1, mm, hm1, hm2, hm3⟩ := hB
              rw [← HA.out, List.getElem?_map] at hm1
              obtain ⟨y, hy, rfl⟩ := Option.map_eq_some_iff.1 hm1
              have HON : Hid (OutOK all (L2.map (·.z) ++ [y.z])) := HO.out.snoc HBB.out (by rw [← HA.out, List.getElem?_map, hy]; rfl)
              obtain ⟨P, hP⟩ := HR.out
              obtain ⟨gb, rfl, _, c1⟩ := hP.cells hy
              have c1' := cell_on c1 HBV.out
              have HY : Hid (Ints (fun b => b < w1.heap.size ∧ ¬ P b) .u8 V y.a y.z.length (lf y.z)) := (hP.nm y (List.mem_of_getElem? hy)).later HBV.out
              have lgb : gb < V.heap.size := lt_of_cell c1'
              have hkL : (kk : Int) < L.length := by have := HAL.out; omega
              have hk0 : ¬ (kk : Int) < 0 := by omega
              have hyl : y.z.length ≤ 1000000 := HZL.out y (List.mem_of_getElem? hy)
              have HVW : Hid (∀ W3 a3, Ints (New V W3) .u8 W3 a3 y.z.length (lf y.z) → Ints (New wr W3) .u8 W3 a3 y.z.length (lf y.z)) := fun W3 a3 h => h.wide (fun b hb => ⟨by have := HVS.out.1; have := hb.1; omega, hb.2⟩)
              have HKV : Hid (Keep (fun _ => False) wr V) := HVS.out.2
              have hN2e : L2.length ≤ 1048576 := by have := HN2.out; omega
              clear hP c1 hm1 hm2 hm3 hy HBK HVS
              go_wp2_with (first | (at_builtin; refine clnA rfl _ _ rfl rfl rfl (z := y.z) HY.out (by omega) ?_; intro a3 c3 W3 HI3 HK3) | (at_builtin; refine nmB rfl _ _ rfl rfl rfl (y := ⟨y.z, a3, c3⟩) HR2.out (HKV.out.trans HK3.out) (HVW.out _ _ HI3.out) hN2e ?_; intro a5 c5 W5 HR5))
              go_roundw
              case rel => exact ⟨L2 ++ [⟨y.z, a3, c3⟩], by rw [List.map_append]; exact HON.out, HR5.out⟩
              case measure => simp only [lenV]; have := HN2.out; omega
    | cons q rest =>
      have hdl : done.length < qs.length := by rw [hq]; simp
      have hLl : L.length ≤ 1000000 := by
        have h1 : L.length = (labsAll done).length := by rw [← hL, List.length_map]
        have h2 : (labsAll qs).length = (labsAll done).length + (labsAll (q :: rest)).length := by rw [hq]; simp [labsAll]
        omega
      have hget : qs[done.length]? = some q := by rw [hq]; simp
      obtain ⟨b, off, rfl, hcell⟩ := HT.out.at hdl
      obtain ⟨h1, h2, ba, bc, h3, h4, h5⟩ := hcell _ q hget
      have HRC : Hid (RlC Q w b (off + done.length * 6) q) := hcell _ q hget
      have HR : Hid (NmR w wr (.slice va L.length vc) L) := hR
      have HQ : Hid (qs = (done ++ [q]) ++ rest ∧ L.map (·.z) = labsAll done) := ⟨by rw [hq]; simp, hL⟩
      have HAL : Hid ((labsAll done).length + (labsOf q).length ≤ 1000000) := by
        have h2 : (labsAll qs).length = (labsAll done).length + ((labsOf q).length + (labsAll rest).length) := by rw [hq]; simp [labsAll]
        show _ ≤ _
        omega
      have hbl : q.body.tk.length ≤ 1000000 := by
        have h2 : (qs.flatMap Rl.tk).length = (done.flatMap Rl.tk).length + (q.tk.length + (rest.flatMap Rl.tk).length) := by rw [hq]; simp
        have := q.len
        have := HTL.out
        omega
      have hdl' : ((done.length : Nat) : Int) < qs.length := by omega
      clear hcell h1 h2 h3 h4 h5 hq hL hR hget
      have HDN : Hid (∃ d, d = done.length) := ⟨_, rfl⟩
      obtain ⟨d, hdn⟩ := HDN.out
      have HDD : Hid (d = done.length) := hdn
      rw [← hdn] at hdl hdl' HRC ⊢
      clear hdn HDN
      have kb := HR.out.keep.bel
      obtain ⟨h1, h2, ba, bc, h3, h4, h5⟩ := HRC.out
      obtain ⟨na, nc, n2, n2'⟩ := h2.nm
      have HNM : Hid (Ints Q .u8 w na q.name.nm.length (lf q.name.nm)) := n2'
      have HBO : Hid (TksA Q w ba q.body.tk) := h4
      have HC5 : Hid (w.cell? ⟨b, off + d * 6 + 5, none⟩ = some (.slice ba q.body.tk.length bc)) := h3
      have r0 := cell_on h1 kb
      have r1 := cell_on n2 kb
      clear h1 h2 h3 h4 h5 n2 n2' kb
      go_upto_if 19 with fail
      go_cut [3] from 9 to 61 (fun v wc => ∃ L : List NC, L.map (·.z) = labsAll done ++ (if q.car.isSome then [q.name.nm] else []) ∧ NmR w wc v L)
      case first =>
        cases hcar : q.car with
        | none =>
          rw [hcar] at r0
          simp only [Option.isSome_none] at r0
          go_wp2
          go_meet
          case rel => exact ⟨L, by rw [HQ.out.2]; simp [hcar], HR.out⟩
        | some cc =>
          rw [hcar] at r0
          simp only [Option.isSome_some] at r0
          go_wp2_with (at_builtin; refine nmA rfl _ _ rfl rfl rfl (y := ⟨q.name.nm, na, nc⟩) HR.out (Keep.refl _ _) HNM.out (by omega) ?_; intro a5 c5 W5 HR5)
          go_meet
          case rel => exact ⟨L ++ [⟨q.name.nm, na, nc⟩], by rw [List.map_append, HQ.out.2]; simp [hcar], HR5.out⟩
      case rest =>
        obtain ⟨L1, hL1, hR1⟩ := hcut
        obtain ⟨va1, vc1, rfl⟩ := hR1.shape
        have HL1 : Hid (L1.map (·.z) = labsAll done ++ (if q.car.isSome then [q.name.nm] else [])) := hL1
        have HR1 : Hid (NmR w wc (.slice va1 L1.length vc1) L1) := hR1
        clear hL1 hR1 r0 r1 HR HNM
        go_wp2
        go_loopw [3, 5] (labJ w q.body.tk (labsAll done ++ labsOf q)) (fun _ u _ => q.body.tk.length + 1 - (intOf u).toNat)
        case atStart => exact ⟨1, L1, by omega, by omega, rfl, by rw [HL1.out]; simp [labsOf], HR1.out⟩
        case round =>
          obtain ⟨j, L2, hj1, hj2, rfl, hL2, hR2⟩ := hrel
          obtain ⟨va2, vc2, rfl⟩ := hR2.shape
          have kb := hR2.keep.bel
          have r5 := cell_on HC5.out kb
          have HL2 : Hid (L2.map (·.z) ++ afterC (q.body.tk.drop (j - 1)) = labsAll done ++ labsOf q) := hL2
          have HR2 : Hid (NmR w wr (.slice va2 L2.length vc2) L2) := hR2
          have hL2n : L2.length ≤ 1000000 := by
            have h1 := congrArg List.length hL2
            have h2 := HAL.out
            simp only [List.length_append, List.length_map] at h1
            omega
          clear hL2 hR2 HR1 HL1
          by_cases hlt : j < q.body.tk.length
          · obtain ⟨p, rfl⟩ : ∃ p, j = p + 1 := ⟨j - 1, by omega⟩
            obtain ⟨bb, bo, rfl, hcell⟩ := HBO.out.at (i := p) (by omega)
            obtain ⟨x, hx⟩ : ∃ x, q.body.tk[p]? = some x := ⟨_, List.getElem?_eq_getElem (by omega)⟩
            obtain ⟨y, hy⟩ : ∃ y, q.body.tk[p + 1]? = some y := ⟨_, List.getElem?_eq_getElem (by omega)⟩
            have s0 := cell_on (hcell p x hx).kind kb
            obtain ⟨ya, yc, y2, y2'⟩ := (hcell (p + 1) y hy).nm
            have s1 := cell_on y2 kb
            have HY : Hid (Ints Q .u8 w ya y.nm.length (lf y.nm)) := y2'
            have HST : Hid (L2.map (·.z) ++ ((if x.kind = 94 then [y.nm] else []) ++ afterC (q.body.tk.drop (p + 1))) = labsAll done ++ labsOf q) := by
              have := HL2.out
              rw [Nat.add_sub_cancel, afterC_step hx hy] at this
              exact this
            have v1 : ((p + 1 : Nat) : Int) - 1 = (p : Int) := by omega
            have hp : (p : Int) < q.body.tk.length := by omega
            have hlt' : ((p + 1 : Nat) : Int) < q.body.tk.length := by omega
            clear hcell hx hy y2 y2' HL2 kb
            by_cases h94 : x.kind = 94
            · have HS2 : Hid ((L2 ++ [(⟨y.nm, ya, yc⟩ : NC)]).map (·.z) ++ afterC (q.body.tk.drop (p + 1)) = labsAll done ++ labsOf q) := by
                have := HST.out
                rw [if_pos h94] at this
                rw [List.map_append, List.append_assoc]
                exact this
              rw [h94] at s0
              clear HST
              go_wp2_with (at_builtin; refine nmA rfl _ _ rfl rfl rfl (y := ⟨y.nm, ya, yc⟩) HR2.out (Keep.refl _ _) HY.out (by omega) ?_; intro a5 c5 W5 HR5)
              go_roundw
              case rel => exact ⟨p + 1 + 1, _, by omega, by omega, by go_num, HS2.out, HR5.out⟩
              case measure => simp [intOf]; omega
            · have HS2 : Hid (L2.map (·.z) ++ afterC (q.body.tk.drop (p + 1)) = labsAll done ++ labsOf q) := by
                have := HST.out
                rw [if_neg h94, List.nil_append] at this
                exact this
              have h94' : (x.kind == 94) = false := by simpa using h94
              clear HST
              go_wp2
              go_roundw
              case rel => exact ⟨p + 1 + 1, _, by omega, by omega, by go_num, HS2.out, HR2.out⟩
              case measure => simp [intOf]; omega
          · have hlt' : ¬ (j : Int) < q.body.tk.length := by omega
            have HL3 : Hid (L2.map (·.z) = labsAll (done ++ [q])) := by
              have := HL2.out
              rw [afterC_end (by omega), List.append_nil] at this
              exact this.trans (by simp [labsAll])
            have HDD2 : Hid (((d : Int) + 1) = ((done ++ [q]).length : Nat)) := by
              have := HDD.out
              show ((d : Int) + 1) = ((done ++ [q]).length : Nat)
              rw [List.length_append, ← this]
              simp
            clear kb
            go_wp2
            go_roundw
            case rel => exact ⟨done ++ [q], rest, L2, HQ.out.1, by rw [← HDD2.out], HL3.out, HR2.out⟩
            case measure => simp [intOf]; omega
end
end Go.Proofs.YteoddjobpmmgeaaGreat
