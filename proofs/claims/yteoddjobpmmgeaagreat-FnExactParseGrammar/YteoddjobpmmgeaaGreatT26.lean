import Derived.Test.YteoddjobpmmgeaaGreatT10
import Derived.Maps.OwnSet
import Derived.Maps.OwnOps
import Derived.Test.YteoddjobpmmgeaaGreatT25
import Derived.Test.YteoddjobpmmgeaaGreatT11
import Derived.Test.YteoddjobpmmgeaaGreatT17
set_option linter.unusedVariables false
set_option linter.unusedSimpArgs false
namespace Go.Proofs.YteoddjobpmmgeaaGreat
section
open Go.RowKit
open M (OpD NodeD Gr)
theorem key9 : Go.Maps.Keyed Tryz.prog 9 := Go.Maps.string_keyed Tryz.underlying9
theorem zero3 (w : World) : (zeroValue 3).run Tryz.prog w = .ok (.int .i64 0) w := by kernel_rfl
def keyL (z : List Int) : Lit := .string (str z.length (lf z)).data.toList
theorem keyL_key (z : List Int) : WideAt.IsKeyLit (keyL z) := trivial
theorem key_of (z : List Int) (h : z.length ≤ 1000000) : keyOf Tryz.prog 9 (.string (str z.length (lf z))) = some (keyL z) := Go.WideMaps.keyOf_string_mk Tryz.underlying9 (by rw [str_size]; unfold maxLen; omega)
theorem keyL_inj {y z : List Int} (hy : BytL y) (hz : BytL z) (h : keyL y = keyL z) : y = z := by
  unfold keyL at h
  injection h with h
  refine (str_lists hy hz).1 ?_
  generalize str y.length (lf y) = p at *
  generalize str z.length (lf z) = q at *
  cases p
  cases q
  congr 1
  exact Array.toList_inj.1 h
abbrev OwnM (w : World) (b n : Nat) (D : DataW Unit) : Prop := w.ownsMap Tryz.prog 9 (plainElem Tryz.prog 3) b n D
structure MapN (w : World) (b : Nat) (ks : List (List Int)) (g : List Int → Nat) : Prop where
  own : ∃ D, OwnM w b ks.length D ∧ Maps.size D = ks.length ∧ (∀ l, Maps.has D l = true ↔ ∃ z ∈ ks, l = keyL z) ∧ ∀ z ∈ ks, D.atKey (keyL z) (.lit (.int .i64 0)) = .lit (.int .i64 (g z : Nat))
  byt : ∀ z ∈ ks, BytL z
  sml : ∀ z ∈ ks, z.length ≤ 1000000
  len : ks.length ≤ 1000000
  nd : ks.Nodup
theorem MapN.on {w w' : World} {b : Nat} {ks : List (List Int)} {g : List Int → Nat} (h : MapN w b ks g) (e : w'.heap[b]? = w.heap[b]?) : MapN w' b ks g := by
  obtain ⟨D, ⟨es, cl, h1, h2⟩, h3⟩ := h.own
  exact ⟨⟨D, ⟨es, cl, e.trans h1, h2⟩, h3⟩, h.byt, h.sml, h.len, h.nd⟩
theorem MapN.lt {w : World} {b : Nat} {ks : List (List Int)} {g : List Int → Nat} (h : MapN w b ks g) : b < w.heap.size := by
  obtain ⟨D, h1, _⟩ := h.own
  exact h1.lt
theorem MapN.alloc {w : World} {b : Nat} {ks : List (List Int)} {g : List Int → Nat} (h : MapN w b ks g) (o : Obj) : MapN (w.alloc o) b ks g := h.on (Below.heap_alloc _ _ _ h.lt)
theorem MapN.made (w : World) (g : List Int → Nat) : MapN (w.alloc (.map #[] 0)) w.heap.size [] g :=
  ⟨⟨.map [], World.ownsMap_made _ _ _ _, rfl, fun l => ⟨(fun q => by cases q), (fun q => by obtain ⟨z, hz, _⟩ := q; cases hz)⟩, (fun z hz => by cases hz)⟩, (fun z hz => by cases hz), (fun z hz => by cases hz), Nat.zero_le _, List.nodup_nil⟩
theorem MapN.congr {w : World} {b : Nat} {ks : List (List Int)} {g g' : List Int → Nat} (h : MapN w b ks g) (e : ∀ z ∈ ks, g z = g' z) : MapN w b ks g' := by
  obtain ⟨D, h1, h2, h3, h4⟩ := h.own
  exact ⟨⟨D, h1, h2, h3, fun z hz => by rw [h4 z hz, e z hz]⟩, h.byt, h.sml, h.len, h.nd⟩
theorem MapN.perm {w : World} {b : Nat} {ks ks' : List (List Int)} {g : List Int → Nat} (h : MapN w b ks g) (p : ks.Perm ks') : MapN w b ks' g := by
  obtain ⟨D, h1, h2, h3, h4⟩ := h.own
  have e := p.length_eq
  exact ⟨⟨D, by rw [← e]; exact h1, by rw [h2, e], fun l => (h3 l).trans ⟨fun q => by obtain ⟨z, a, c⟩ := q; exact ⟨z, p.mem_iff.1 a, c⟩, fun q => by obtain ⟨z, a, c⟩ := q; exact ⟨z, p.mem_iff.2 a, c⟩⟩, fun z hz => h4 z (p.mem_iff.2 hz)⟩, fun z hz => h.byt z (p.mem_iff.2 hz), fun z hz => h.sml z (p.mem_iff.2 hz), by rw [← e]; exact h.len, p.nodup_iff.1 h.nd⟩
theorem MapN.has {w : World} {b : Nat} {ks : List (List Int)} {g : List Int → Nat} (h : MapN w b ks g) {D : DataW Unit} (h3 : ∀ l, Maps.has D l = true ↔ ∃ z ∈ ks, l = keyL z) {z : List Int} (hz : BytL z) : Maps.has D (keyL z) = decide (z ∈ ks) := by
  by_cases q : z ∈ ks
  · rw [decide_eq_true q]
    exact (h3 _).2 ⟨z, q, rfl⟩
  · rw [decide_eq_false q]
    by_cases e : Maps.has D (keyL z) = true
    · obtain ⟨y, hy, e⟩ := (h3 _).1 e
      exact absurd (by rw [keyL_inj hz (h.byt y hy) e]; exact hy) q
    · simpa using e
def valN (ks : List (List Int)) (g : List Int → Nat) (z : List Int) : Nat := if z ∈ ks then g z else 0
theorem own_tight {w : World} {b n : Nat} {D : DataW Unit} (h : OwnM w b n D) : OwnM w b (Maps.size D) D := by
  obtain ⟨es, cl, h1, h2, h3, rfl⟩ := h
  exact ⟨es, cl, h1, h2, by simp [Maps.size, length_sorted], rfl⟩
theorem MapN.look {w : World} {b : Nat} {ks : List (List Int)} {g : List Int → Nat} (h : MapN w b ks g) {z : List Int} (hz : BytL z) (hl : z.length ≤ 1000000) :
    ∃ D, OwnM w b ks.length D ∧ D.atKey (keyL z) (.lit (.int .i64 0)) = .lit (.int .i64 (valN ks g z : Nat)) ∧ Maps.has D (keyL z) = decide (z ∈ ks) := by
  obtain ⟨D, h1, h2, h3, h4⟩ := h.own
  refine ⟨D, h1, ?_, h.has h3 hz⟩
  unfold valN
  by_cases q : z ∈ ks
  · rw [if_pos q, h4 z q]
  · rw [if_neg q]
    exact Maps.atKey_of_not_has (by rw [h.has h3 hz, decide_eq_false q]) _
def updN (g : List Int → Nat) (z : List Int) (i : Nat) : List Int → Nat := fun y => if y = z then i else g y
def addN (ks : List (List Int)) (z : List Int) : List (List Int) := if z ∈ ks then ks else ks ++ [z]
theorem mem_addN {ks : List (List Int)} {z y : List Int} : y ∈ addN ks z ↔ y ∈ ks ∨ y = z := by
  unfold addN
  split
  · exact ⟨fun q => .inl q, fun q => q.elim id (fun e => by rw [e]; assumption)⟩
  · simp
theorem MapN.put {w w' : World} {b : Nat} {ks : List (List Int)} {g : List Int → Nat} (h : MapN w b ks g) {z : List Int} (hz : BytL z) (hl : z.length ≤ 1000000) (i : Nat) (hk : ks.length + 1 ≤ 1000000)
    {D : DataW Unit} {n : Nat} (h2 : Maps.size D = ks.length) (h3 : ∀ l, Maps.has D l = true ↔ ∃ z ∈ ks, l = keyL z) (h4 : ∀ z ∈ ks, D.atKey (keyL z) (.lit (.int .i64 0)) = .lit (.int .i64 (g z : Nat))) (ht : Maps.Tidy D) (ho : OwnM w' b n (D.put (keyL z) (.lit (.int .i64 (i : Nat))))) :
    MapN w' b (addN ks z) (updN g z i) := by
  have hs : Maps.size (D.put (keyL z) (.lit (.int .i64 (i : Nat)))) = (addN ks z).length := by
    rw [Maps.size_put ht, h.has h3 hz, h2]
    unfold addN
    by_cases q : z ∈ ks
    · rw [if_pos (by simpa using q), if_pos q]
    · rw [if_neg (by simpa using q), if_neg q, List.length_append]; rfl
  refine ⟨⟨_, by rw [← hs]; exact own_tight ho, hs, fun l => ?_, fun y hy => ?_⟩, fun y hy => ?_, fun y hy => ?_, ?_, ?_⟩
  · by_cases e : l = keyL z
    · subst e
      rw [Maps.has_put_same ht.isMap (keyL_key z)]
      exact ⟨fun _ => ⟨z, mem_addN.2 (.inr rfl), rfl⟩, fun _ => rfl⟩
    · rw [Maps.has_put_other e, h3]
      constructor
      · rintro ⟨y, hy, rfl⟩
        exact ⟨y, mem_addN.2 (.inl hy), rfl⟩
      · rintro ⟨y, hy, rfl⟩
        rcases mem_addN.1 hy with q | q
        · exact ⟨y, q, rfl⟩
        · rw [q] at e
          exact absurd rfl e
  · unfold updN
    by_cases e : y = z
    · rw [if_pos e, e]
      exact Maps.atKey_put_same ht.isMap (keyL_key z) _ _
    · rw [if_neg e]
      rcases mem_addN.1 hy with q | q
      · rw [Maps.atKey_put_other (fun c => e (keyL_inj (h.byt y q) hz c))]
        exact h4 y q
      · exact absurd q e
  · rcases mem_addN.1 hy with q | q
    · exact h.byt y q
    · rw [q]; exact hz
  · rcases mem_addN.1 hy with q | q
    · exact h.sml y q
    · rw [q]; exact hl
  · unfold addN
    split
    · exact h.len
    · rw [List.length_append]; exact hk
  · unfold addN
    split
    · exact h.nd
    · rename_i q
      refine List.nodup_append.2 ⟨h.nd, by simp, fun x hx y hy => ?_⟩
      rw [List.mem_singleton.1 hy]
      exact fun e => q (by rw [← e]; exact hx)
section
variable (w : World) {ops : Array Oper} {rest : List Oper} {o : Oper} {a : Act} {Q : Exit → Act → World → Prop}
theorem lookN (hg : o.guard = none) (m x : Operand) (hop : o.op = Op.lookup 65 m x true) (b : Nat) (ks : List (List Int)) (g : List Int → Nat) (z : List Int) (hm : a.eval m = .map (some b)) (h : MapN w b ks g) (hx : a.eval x = .string (str z.length (lf z))) (hz : BytL z) (hl : z.length ≤ 1000000) (bv : Bool) (hbv : decide (z ∈ ks) = bv)
    (hK : wpList Tryz.prog ops Q rest (a.put o.dst (.tuple #[.int .i64 (valN ks g z : Nat), .bool bv])) w) : wpList Tryz.prog ops Q (o :: rest) a w := by
  obtain ⟨D, h1, h2, h3⟩ := h.look hz hl
  refine wpList_lookup_own_ok_int w hg m x 65 hop 9 3 .i64 key9 Tryz.underlying65 Tryz.underlying3 (zero3 w) b _ D hm h1 _ _ hx (key_of z hl) (fun c hat hwc => ?_)
  rw [h2] at hat
  injection hat with hat
  injection hat with _ hat
  rw [← hat, h3, hbv]
  exact hK
theorem lookV (hg : o.guard = none) (m x : Operand) (hop : o.op = Op.lookup 65 m x false) (b : Nat) (ks : List (List Int)) (g : List Int → Nat) (z : List Int) (hm : a.eval m = .map (some b)) (h : MapN w b ks g) (hx : a.eval x = .string (str z.length (lf z))) (hz : BytL z) (hl : z.length ≤ 1000000)
    (hK : wpList Tryz.prog ops Q rest (a.put o.dst (.int .i64 (valN ks g z : Nat))) w) : wpList Tryz.prog ops Q (o :: rest) a w := by
  obtain ⟨D, h1, h2, h3⟩ := h.look hz hl
  refine wpList_lookup_own_int w hg m x 65 hop 9 3 .i64 key9 Tryz.underlying65 Tryz.underlying3 (zero3 w) b _ D hm h1 _ _ hx (key_of z hl) (fun c hat hwc => ?_)
  rw [h2] at hat
  injection hat with hat
  injection hat with _ hat
  rw [← hat]
  exact hK
theorem lenN (hg : o.guard = none) (m : Operand) (hop : o.op = Op.call { callee := Callee.builtin Builtin.len, args := #[m], argTypes := #[65] }) (b : Nat) (ks : List (List Int)) (g : List Int → Nat) (hm : a.eval m = .map (some b)) (h : MapN w b ks g)
    (hK : wpList Tryz.prog ops Q rest (a.put o.dst (.int .i64 (ks.length : Nat))) w) : wpList Tryz.prog ops Q (o :: rest) a w := by
  obtain ⟨D, h1, h2, h3, h4⟩ := h.own
  refine wpList_len_own w hg m 65 hop 9 3 Tryz.underlying65 _ b _ D hm h1 ?_
  rw [h2]
  exact hK
theorem putN (hg : o.guard = none) (m x v : Operand) (hop : o.op = Op.mapUpdate 65 m x v) (b : Nat) (ks : List (List Int)) (g : List Int → Nat) (z : List Int) (i : Nat) (hm : a.eval m = .map (some b)) (h : MapN w b ks g) (hx : a.eval x = .string (str z.length (lf z))) (hv : a.eval v = .int .i64 (i : Nat)) (hz : BytL z) (hl : z.length ≤ 1000000) (hk : ks.length + 1 ≤ 1000000) (hi : i ≤ 1000000)
    (hK : ∀ w', MapN w' b (addN ks z) (updN g z i) → w.grownBy w' (some b) → wpList Tryz.prog ops Q rest (a.put o.dst undef) w') : wpList Tryz.prog ops Q (o :: rest) a w := by
  obtain ⟨D, h1, h2, h3, h4⟩ := h.own
  exact wpList_mapUpdate_own w hg m x v 65 hop 9 3 key9 Tryz.underlying65 _ b _ D hm h1 (by unfold maxLen; omega) _ _ (keyL z) hx hv (key_of z hl) _ [] (plainElem_int Tryz.underlying3 (WalkArith.wf_i64 (by omega))) (fun w' ho hgr => hK w' (h.put hz hl i hk h2 h3 h4 (h1.tidy key9) ho) hgr)
end
end
section
open Go.RowKit
open M (OpD NodeD Gr)
def PE.refT : PE → List Tok
  | .ref t => [t]
  | .thr _ _ => []
  | .str _ => []
  | .cls _ => []
  | .dot _ => []
  | .grp _ e _ => e.refT
  | .star e _ => e.refT
  | .opt e _ => e.refT
  | .not _ e => e.refT
  | .amp _ e => e.refT
  | .emp => []
  | .seq a b => a.refT ++ b.refT
  | .alt a _ b => a.refT ++ b.refT
def PE.thrT : PE → List Tok
  | .ref _ => []
  | .thr _ t => [t]
  | .str _ => []
  | .cls _ => []
  | .dot _ => []
  | .grp _ e _ => e.thrT
  | .star e _ => e.thrT
  | .opt e _ => e.thrT
  | .not _ e => e.thrT
  | .amp _ e => e.thrT
  | .emp => []
  | .seq a b => a.thrT ++ b.thrT
  | .alt a _ b => a.thrT ++ b.thrT
def tkC (x : Tok) (s : Value) : List Value := [.int .u8 (kk x.kind), .int .i64 (x.at_ : Nat), .string (str x.nm.length (lf x.nm)), s]
def TkCs : List Tok → List Value → Prop
  | [], cs => cs = []
  | x :: r, cs => ∃ a n c d, cs = tkC x (.slice a n c) ++ d ∧ TkCs r d
theorem TkCs.snoc {x : Tok} {a : Option Addr} {n c : Nat} : ∀ {l : List Tok} {cs : List Value}, TkCs l cs → TkCs (l ++ [x]) (cs ++ tkC x (.slice a n c))
  | [], cs, h => by
    have h : cs = [] := h
    subst h
    exact ⟨a, n, c, [], by simp, rfl⟩
  | y :: r, cs, h => by
    obtain ⟨a', n', c', d, e, h⟩ := h
    subst e
    exact ⟨a', n', c', d ++ tkC x (.slice a n c), by simp, TkCs.snoc h⟩
def TkRow (Q : Nat → Prop) (w : World) (v : Value) (l : List Tok) : Prop := ∃ cs, OwnC Q w v 4 l.length cs ∧ TkCs l cs
theorem TkRow.on {Q Q' : Nat → Prop} {w w' : World} {v : Value} {l : List Tok} (h : TkRow Q w v l) (k : Stay Q w w') (t : ∀ b, Q b → Q' b) : TkRow Q' w' v l := by
  obtain ⟨cs, h, h'⟩ := h
  exact ⟨cs, ownC_wide (h.on k) t, h'⟩
structure Apt (rb : Nat) (A B N : Nat → Prop) (w : World) : Prop where
  rows : ∀ b, A b → b < w.heap.size ∧ b ≠ rb ∧ ¬ B b ∧ ¬ N b
  thrs : ∀ b, B b → b < w.heap.size ∧ b ≠ rb ∧ ¬ N b
  set : ∀ b, N b → b < w.heap.size ∧ b ≠ rb
def C3 (rb : Nat) (A B : Nat → Prop) : Nat → Prop := fun b => b = rb ∨ A b ∨ B b
structure RS (rb : Nat) (t : Tx) (r : Rv) (k : Tok) (sa : Option Addr) (sc i : Nat) (l rf th : List Tok) (A B N : Nat → Prop) (w : World) : Prop where
  blk : RB rb t (nextR r k sa sc) i w
  set : OwnC N w (.slice sa k.set.length sc) 1 k.set.length (intVs .i64 (lf k.set) k.set.length)
  refs : TkRow A w r.v7 rf
  thrs : TkRow B w r.v8 th
  left : Left t k i l
  txt : Ints (fun b => b < w.heap.size ∧ b ≠ rb ∧ ¬ A b ∧ ¬ B b) .u8 w r.ta t.n t.T
  cap : t.n ≤ r.tc
  apt : Apt rb A B N w
  tok : TokF t.n k
  kind : k.kind ≠ 97
  big : rf.length + th.length + l.length ≤ 1000000
  tn : t.n ≤ 1000000
theorem ints_wide {P Q : Nat → Prop} {w : World} {a : Option Addr} {n : Nat} {T : Nat → Int} (h : Ints P .u8 w a n T) (t : ∀ b, P b → Q b) : Ints Q .u8 w a n T := by
  rcases h with h | ⟨b, off, e, hq, h⟩
  · exact .inl h
  · exact .inr ⟨b, off, e, t b hq, h⟩
theorem ints_stay {P : Nat → Prop} {w w' : World} {a : Option Addr} {n : Nat} {T : Nat → Int} (h : Ints P .u8 w a n T) (k : Stay P w w') : Ints P .u8 w' a n T := by
  rcases h with h | ⟨b, off, e, hq, h⟩
  · exact .inl h
  · exact .inr ⟨b, off, e, hq, fun i hi => (k.cell hq).trans (h i hi)⟩
theorem RS.txq {rb : Nat} {t : Tx} {r : Rv} {k : Tok} {sa : Option Addr} {sc i : Nat} {l rf th : List Tok} {A B N : Nat → Prop} {w : World} (h : RS rb t r k sa sc i l rf th A B N w) : TxQ rb w r.ta t :=
  ints_wide h.txt (fun b q => ⟨q.1, q.2.1⟩)
theorem nxt_kind (t : Tx) (i : Nat) : (nxtT t i).1.kind ≠ 97 := by
  unfold nxtT
  split
  · show (110 : Int) ≠ 97; omega
  · split
    · cases strT t i with
      | none => show (0 : Int) ≠ 97; omega
      | some p => show (34 : Int) ≠ 97; omega
    · split
      · cases clsT t i with
        | none => show (0 : Int) ≠ 97; omega
        | some p => show (91 : Int) ≠ 97; omega
      · split
        · rename_i h
          intro q
          have q : t.T i = 97 := q
          rw [q] at h
          simp [oneS] at h
        · show (0 : Int) ≠ 97; omega
theorem advT_ok (t : Tx) (i : Nat) : TokF t.n (advT t i).1 ∧ (advT t i).1.kind ≠ 97 := by
  unfold advT
  split
  · rename_i h
    exact ⟨(nxt_ok t h).1, nxt_kind t _⟩
  · exact ⟨⟨(fun y hy => by cases hy), Nat.zero_le _, .inl rfl, (fun h => absurd h (by show (0 : Int) ≠ 91; omega)), (fun h => absurd h (by show (0 : Int) ≠ 110; omega))⟩, by show (0 : Int) ≠ 97; omega⟩
theorem RS.next {rb : Nat} {t : Tx} {r : Rv} {k : Tok} {sa : Option Addr} {sc i : Nat} {l rf th : List Tok} {A B N : Nat → Prop} {w w' : World} {sa2 : Option Addr} {sc2 : Nat} (h : RS rb t r k sa sc i (k :: l) rf th A B N w) (hk : Keep (fun b => b = rb) w w') (h0 : skip t i < t.n → (advT t i).1.kind ≠ 0)
    (hB : RB rb t (nextR r (advT t i).1 sa2 sc2) (advT t i).2 w') (hO : OwnC (New w w') w' (.slice sa2 (advT t i).1.set.length sc2) 1 (advT t i).1.set.length (intVs .i64 (lf (advT t i).1.set) (advT t i).1.set.length)) :
    RS rb t r (advT t i).1 sa2 sc2 (advT t i).2 l rf th A B (New w w') w' := by
  have hs := hk.size
  have hrb := h.blk.lt
  refine ⟨hB, hO, h.refs.on (fun b q => hk.block b (h.apt.rows b q).1 (h.apt.rows b q).2.1) (fun b q => q), h.thrs.on (fun b q => hk.block b (h.apt.thrs b q).1 (h.apt.thrs b q).2.1) (fun b q => q), left_next h.left h0, ?_, h.cap, ⟨?_, ?_, ?_⟩, (advT_ok t i).1, (advT_ok t i).2, ?_, h.tn⟩
  · exact ints_wide (ints_stay h.txt (fun b q => hk.block b q.1 q.2.1)) (fun b q => ⟨by have := q.1; omega, q.2⟩)
  · exact fun b q => ⟨by have := (h.apt.rows b q).1; omega, (h.apt.rows b q).2.1, (h.apt.rows b q).2.2.1, fun x => by have := (h.apt.rows b q).1; have := x.1; omega⟩
  · exact fun b q => ⟨by have := (h.apt.thrs b q).1; omega, (h.apt.thrs b q).2.1, fun x => by have := (h.apt.thrs b q).1; have := x.1; omega⟩
  · exact fun b q => ⟨q.2, fun e => by have := q.1; omega⟩
  · have := h.big
    simp at this
    omega
theorem RS.cons {rb : Nat} {t : Tx} {r : Rv} {k : Tok} {sa : Option Addr} {sc i : Nat} {l rf th : List Tok} {A B N : Nat → Prop} {w : World} (h : RS rb t r k sa sc i l rf th A B N w) (h0 : k.kind ≠ 0) : ∃ l1, l = k :: l1 := by
  rcases h.left with q | q
  · exact ⟨_, q.1⟩
  · exact absurd (by rw [q.2.1]) h0
theorem kk_is {k c : Int} (h97 : k ≠ 97) (hc : c ≠ 97) (hc2 : c ≠ 110) : (kk k = c ↔ k = c) := by
  unfold kk
  split
  · omega
  · exact Iff.rfl
theorem kk_name {k : Int} (h97 : k ≠ 97) : (kk k = 97 ↔ k = 110) := by
  unfold kk
  split
  · omega
  · omega
def AccR (rb : Nat) (t : Tx) (r : Rv) (k : Tok) (c : Int) (l rf th : List Tok) (A B : Nat → Prop) (w : World) (e : Ending) (w' : World) : Prop :=
  (k.kind ≠ c ∧ e = .returned (.bool false) ∧ w' = w) ∨ (k.kind = c ∧ Keep (fun b => b = rb) w w' ∧ ∃ l1, l = k :: l1 ∧ ((∃ k' sa sc i', e = .returned (.bool true) ∧ RS rb t r k' sa sc i' l1 rf th A B (New w w') w') ∨ (∃ x, l1 = [x] ∧ x.kind = 0 ∧ e = .panicked (flt 5 (x.at_ : Nat)))))
theorem accept_rs {rb : Nat} {t : Tx} {r : Rv} {k : Tok} {sa : Option Addr} {sc i : Nat} {l rf th : List Tok} {A B N : Nat → Prop} {w : World} (h : RS rb t r k sa sc i l rf th A B N w) (c : Int) (h0 : c ≠ 0) (hc : c ≠ 97) (hc2 : c ≠ 110) :
    Calls Tryz.prog 64 #[.pointer (some ⟨rb, 0, none⟩), .int .u8 c] w (AccR rb t r k c l rf th A B w) := by
  refine (accept_any rb t r k sa sc i c w h.blk h.txq h.left.le h.cap).mono ?_
  rintro e W (⟨q, rfl, rfl⟩ | ⟨q, hk, q2⟩)
  · exact .inl ⟨fun x => q ((kk_is h.kind hc hc2).2 x), rfl, rfl⟩
  · have hkc := (kk_is h.kind hc hc2).1 q
    obtain ⟨l1, rfl⟩ := h.cons (by rw [hkc]; exact h0)
    refine .inr ⟨hkc, hk, l1, rfl, ?_⟩
    rcases q2 with ⟨sa2, sc2, a0, rfl, hB, hO⟩ | ⟨a1, a0, rfl⟩
    · exact .inl ⟨_, sa2, sc2, _, rfl, h.next hk a0 hB hO⟩
    · obtain ⟨x, e1, e2, e3⟩ := left_bad h.left a1 a0
      exact .inr ⟨x, e1, e2, by rw [e3]⟩
def ExpR (rb : Nat) (t : Tx) (r : Rv) (k : Tok) (sa : Option Addr) (sc : Nat) (c : Int) (l rf th : List Tok) (A B : Nat → Prop) (w : World) (e : Ending) (w' : World) : Prop :=
  Keep (fun b => b = rb) w w' ∧ ((k.kind ≠ c ∧ e = .panicked (flt 5 (pos t.n l : Nat))) ∨ (k.kind = c ∧ ∃ l1, l = k :: l1 ∧ ((∃ k' sa2 sc2 i', e = .returned (.agg #[.int .u8 (kk k.kind), .int .i64 (k.at_ : Nat), .string (str k.nm.length (lf k.nm)), .slice sa k.set.length sc]) ∧ RS rb t r k' sa2 sc2 i' l1 rf th A B (New w w') w') ∨ (∃ x, l1 = [x] ∧ x.kind = 0 ∧ e = .panicked (flt 5 (x.at_ : Nat))))))
theorem RS.pos {rb : Nat} {t : Tx} {r : Rv} {k : Tok} {sa : Option Addr} {sc i : Nat} {l rf th : List Tok} {A B N : Nat → Prop} {w : World} (h : RS rb t r k sa sc i l rf th A B N w) : k.at_ = pos t.n l := by
  rcases h.left with q | q
  · rw [q.1]; rfl
  · rw [q.1, q.2.1]; rfl
theorem expect_rs {rb : Nat} {t : Tx} {r : Rv} {k : Tok} {sa : Option Addr} {sc i : Nat} {l rf th : List Tok} {A B N : Nat → Prop} {w : World} (h : RS rb t r k sa sc i l rf th A B N w) (c : Int) (h0 : c ≠ 0) {d : Int} (hc : kk k.kind = d ↔ k.kind = c) :
    Calls Tryz.prog 65 #[.pointer (some ⟨rb, 0, none⟩), .int .u8 d] w (ExpR rb t r k sa sc c l rf th A B w) := by
  refine (expect_any rb t r k sa sc i d w h.blk h.txq h.left.le h.cap).mono ?_
  rintro e W ⟨hk, ⟨q, rfl⟩ | ⟨q, q2⟩⟩
  · exact ⟨hk, .inl ⟨fun x => q (hc.2 x), by rw [h.pos]⟩⟩
  · have hkc := hc.1 q
    obtain ⟨l1, rfl⟩ := h.cons (by rw [hkc]; exact h0)
    refine ⟨hk, .inr ⟨hkc, l1, rfl, ?_⟩⟩
    rcases q2 with ⟨sa2, sc2, a0, rfl, hB, hO⟩ | ⟨a1, a0, rfl⟩
    · exact .inl ⟨_, sa2, sc2, _, rfl, h.next hk a0 hB hO⟩
    · obtain ⟨x, e1, e2, e3⟩ := left_bad h.left a1 a0
      exact .inr ⟨x, e1, e2, by rw [e3]⟩
def BadR (R : Sum Nat (PE × List Tok)) (p : Nat) : Prop := R = .inl p ∨ ∃ x y l, R = .inr (x, y :: l) ∧ y.kind = 0 ∧ y.at_ = p
structure RdOK (rb : Nat) (t : Tx) (r : Rv) (d : Nat) (l rf th : List Tok) (A B N : Nat → Prop) (w : World) (x : PE) (l1 : List Tok) (v : Value) (w' : World) (v7 v8 : Value) (k : Tok) (sa : Option Addr) (sc i : Nat) (A' B' N' P : Nat → Prop) : Prop where
  len : l1.length + d ≤ l.length
  st : RS rb t { r with v7 := v7, v8 := v8 } k sa sc i l1 (rf ++ x.refT) (th ++ x.thrT) A' B' N' w'
  tree : TrA w' x v P
  ra : ∀ b, A' b → A b ∨ New w w' b
  rb' : ∀ b, B' b → B b ∨ New w w' b
  rn : ∀ b, N' b → N b ∨ New w w' b
  rp : ∀ b, P b → (N b ∨ New w w' b) ∧ ¬ A' b ∧ ¬ B' b ∧ ¬ N' b
def RdIs (R : Sum Nat (PE × List Tok)) (d : Nat) (rb : Nat) (t : Tx) (r : Rv) (l rf th : List Tok) (A B N : Nat → Prop) (w : World) (e : Ending) (w' : World) : Prop :=
  Keep (C3 rb A B) w w' ∧ ((∃ x l1 v v7 v8 k sa sc i A' B' N' P, R = .inr (x, l1) ∧ e = .returned v ∧ RdOK rb t r d l rf th A B N w x l1 v w' v7 v8 k sa sc i A' B' N' P) ∨ (∃ p : Nat, e = .panicked (flt 5 (p : Nat)) ∧ BadR R p))
theorem kAt_bad {y : Tok} {l : List Tok} (h : y.kind = 0) : ¬ beg (kAt (y :: l) 0) := by
  have : kAt (y :: l) 0 = 0 := h
  rw [this]
  unfold beg
  omega
theorem rd_badhead (n : Nat) : ∀ (f m : Nat) (acc : PE) (y : Tok) (l : List Tok), y.kind = 0 → BadR (rd n f m acc (y :: l)) y.at_
  | 0, m, acc, y, l, h => .inl (by rw [rd]; rfl)
  | f + 1, 0, acc, y, l, h => .inl (by
      rw [rd.eq_def]
      simp only [h]
      rfl)
  | f + 1, 1, acc, y, l, h => by
    rw [rd]
    rcases rd_badhead n f 0 .emp y l h with q | ⟨x, z, l', q, hz, ha⟩
    · rw [q]; exact .inl rfl
    · rw [q]
      simp only [hz]
      exact .inr ⟨x, z, l', rfl, hz, ha⟩
  | f + 1, 2, acc, y, l, h => by
    rw [rd]
    simp only [h]
    exact rd_badhead n f 1 .emp y l h
  | f + 1, 3, acc, y, l, h => by
    rw [rd, if_neg (kAt_bad h)]
    exact .inr ⟨_, _, _, rfl, h, rfl⟩
  | f + 1, 4, acc, y, l, h => by
    rw [rd, if_neg (kAt_bad h)]
    exact .inr ⟨_, _, _, rfl, h, rfl⟩
  | f + 1, 5, acc, y, l, h => by
    rw [rd]
    rcases rd_badhead n f 4 .emp y l h with q | ⟨x, z, l', q, hz, ha⟩
    · rw [q]; exact .inl rfl
    · rw [q]
      rw [← ha]
      exact rd_badhead n f 6 x z l' hz
  | f + 1, 6, acc, y, l, h => by
    rw [rd]
    simp only [h]
    exact .inr ⟨_, _, _, rfl, h, rfl⟩
  | f + 1, m + 7, acc, y, l, h => .inl (by rw [rd]; rfl)
end
end Go.Proofs.YteoddjobpmmgeaaGreat
