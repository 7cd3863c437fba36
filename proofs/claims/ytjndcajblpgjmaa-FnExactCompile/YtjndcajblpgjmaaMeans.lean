/-
  Walks: the node that an element names; the nodes that a body names.
-/
import Derived.Test.YtjndcajblpgjmaaNset
import Derived.Test.YtjndcajblpgjmaaBodies
import Derived.Test.YtjndcajblpgjmaaIter
import Derived.Test.YtjndcajblpgjmaaCopyG
import Derived.Deep.RegionWith
import Derived.Deep.RegionLaw
namespace Go.Proofs.Ytjndcajblpgjmaa
open Go.RowKit
open M (OpD NodeD Gr)
set_option linter.unusedVariables false

set_option maxHeartbeats 1000000 in
theorem nodeMeant_any (ra la sa : Option Addr) (nr rc nb lc sc : Nat) (o : OpD) (w : World) (h0 : 0 ≤ o.arg) (h1 : o.arg ≤ 1048576) (h2 : nr ≤ 1048576) :
    Calls Try.prog 139 #[.agg #[.slice ra nr rc, .slice la nb lc], .agg #[.int .i64 o.kind, .slice sa o.sl sc, .int .i64 o.arg]] w fun e w' => e = .returned (.int .i64 (M.tg nr o : Nat)) ∧ Below w.heap.size w w' := by
  by_cases e3 : o.kind = 3
  · have f3 : (o.kind == 3) = true := by simp [e3]
    have E3 : Hid (o.kind = 3) := e3
    clear e3
    go_enter Try.func139, Try.ntmps139
    go_wp2
    go_ret
    exact ⟨ret_int (by unfold M.tg; rw [if_pos E3.out]; omega), bel2 w _ _⟩
  · have f3 : (o.kind == 3) = false := by simp [e3]
    have E3 : Hid (¬ o.kind = 3) := e3
    clear e3
    go_enter Try.func139, Try.ntmps139
    go_wp2
    go_ret
    exact ⟨ret_int (by unfold M.tg; rw [if_neg E3.out]; omega), bel2 w _ _⟩

theorem with_agg (s : NS) (p : Nat) (w : World) (hs : s.OK) (hp : p < 256) :
    Calls Try.prog 140 #[.agg #[.int .u64 s.a, .int .u64 s.b, .int .u64 s.c, .int .u64 s.d], .int .i64 p] w fun e w' => (∃ t, t = s.put p ∧ e = .returned (.agg #[.int .u64 t.a, .int .u64 t.b, .int .u64 t.c, .int .u64 t.d])) ∧ Below w.heap.size w w' :=
  (with_any s p w hs hp).mono (fun e w' h => ⟨⟨_, rfl, h.1⟩, h.2⟩)
theorem union_agg (s t : NS) (w : World) (hs : s.OK) (ht : t.OK) :
    Calls Try.prog 141 #[.agg #[.int .u64 s.a, .int .u64 s.b, .int .u64 s.c, .int .u64 s.d], .agg #[.int .u64 t.a, .int .u64 t.b, .int .u64 t.c, .int .u64 t.d]] w fun e w' => (∃ u, u = s.join t ∧ e = .returned (.agg #[.int .u64 u.a, .int .u64 u.b, .int .u64 u.c, .int .u64 u.d])) ∧ Below w.heap.size w w' :=
  (union_any s t w hs ht).mono (fun e w' h => ⟨⟨_, rfl, h.1⟩, h.2⟩)

/-- The set of the nodes that the first k elements name. -/
def used (nr : Nat) (B : Nat → OpD) : Nat → NS
  | 0 => nz
  | k + 1 => if M.Names (B k) then (used nr B k).put (M.tg nr (B k)) else used nr B k
theorem used_ok (nr : Nat) (B : Nat → OpD) (k : Nat) : (used nr B k).OK := by
  induction k with
  | zero => exact NS.OK.zero
  | succ k ih =>
    rw [used]
    split
    · exact ih.put _
    · exact ih
theorem used_has (nr : Nat) (B : Nat → OpD) (k q : Nat) (hq : q < 256) (hB : ∀ j, j < k → M.Names (B j) → M.tg nr (B j) < 256) : (used nr B k).has q = true ↔ M.Uses nr k B q := by
  induction k with
  | zero => rw [used, nz_has]; simp [M.Uses]
  | succ k ih =>
    have ih := ih (fun j hj => hB j (by omega))
    rw [used]
    split
    · rename_i hn
      rw [put_has _ _ _ (hB k (by omega) hn) hq]
      simp only [Bool.or_eq_true, ih, beq_iff_eq]
      constructor
      · rintro (⟨j, hj, h⟩ | rfl)
        · exact ⟨j, by omega, h⟩
        · exact ⟨k, by omega, hn, rfl⟩
      · rintro ⟨j, hj, h1, h2⟩
        by_cases e : j = k
        · subst e; exact .inr h2.symm
        · exact .inl ⟨j, by omega, h1, h2⟩
    · rename_i hn
      rw [ih]
      constructor
      · rintro ⟨j, hj, h⟩; exact ⟨j, by omega, h⟩
      · rintro ⟨j, hj, h1, h2⟩
        by_cases e : j = k
        · subst e; exact absurd h1 hn
        · exact ⟨j, by omega, h1, h2⟩

theorem tg_lt {nr nb : Nat} {o : OpD} (h : M.ElemOK nr nb o) (hn : M.Names o) : M.tg nr o < nr + nb := by
  obtain ⟨_, _, _, _, h5, h6⟩ := h
  unfold M.tg
  unfold M.most at h6
  rcases hn with e | e
  · rw [if_neg (by omega)]; rw [if_neg (by omega), if_pos e] at h6; omega
  · rw [if_pos e]; rw [if_pos e] at h6; omega

/-- A block that holds four words. -/
def At (w : World) (b : Nat) (s : NS) : Prop := w.heap[b]? = some (nsc s)
theorem At.cells {w : World} {b : Nat} {s : NS} (h : At w b s) : w.cell? ⟨b, 0, none⟩ = some (.int .u64 s.a) ∧ w.cell? ⟨b, 1, none⟩ = some (.int .u64 s.b) ∧ w.cell? ⟨b, 2, none⟩ = some (.int .u64 s.c) ∧ w.cell? ⟨b, 3, none⟩ = some (.int .u64 s.d) := by
  unfold At at h
  simp [World.cell?, h, nsc]
theorem At.soft {w : World} {b : Nat} {s : NS} (h : At w b s) : w.frozen? ⟨b, 0, none⟩ = false ∧ w.frozen? ⟨b, 1, none⟩ = false ∧ w.frozen? ⟨b, 2, none⟩ = false ∧ w.frozen? ⟨b, 3, none⟩ = false := by
  unfold At at h
  simp [World.frozen?, h, nsc]
theorem At.lt {w : World} {b : Nat} {s : NS} (h : At w b s) : b < w.heap.size := (Array.getElem?_eq_some_iff.1 h).1
theorem At.new (w : World) (s : NS) : At (w.alloc (nsc s)) w.heap.size s := World.alloc_heap_new w (nsc s)
theorem At.later {w w' : World} {b : Nat} {s : NS} (h : At w b s) (k : Below w.heap.size w w') : At w' b s := (k.block b h.lt).trans h
theorem At.keep {w w' : World} {b : Nat} {s : NS} (h : At w b s) (k : w'.heap[b]? = w.heap[b]?) : At w' b s := k.trans h
def set4 (w : World) (b : Nat) (s : NS) : World := (((w.setCell ⟨b, 0, none⟩ (.int .u64 s.a)).setCell ⟨b, 1, none⟩ (.int .u64 s.b)).setCell ⟨b, 2, none⟩ (.int .u64 s.c)).setCell ⟨b, 3, none⟩ (.int .u64 s.d)
theorem set_block {w : World} {b : Nat} {cs : Array Value} {t : TypeId} (h : w.heap[b]? = some (.cells cs t)) (o : Nat) (v : Value) : (w.setCell ⟨b, o, none⟩ v).heap[b]? = some (.cells (cs.setIfInBounds o v) t) := by
  have hb : b < w.heap.size := (Array.getElem?_eq_some_iff.1 h).1
  simp [World.setCell, Array.getElem?_modify, h]
theorem At.set {w : World} {b : Nat} {s : NS} (h : At w b s) (t : NS) : At (set4 w b t) b t :=
  set_block (set_block (set_block (set_block h 0 (.int .u64 t.a)) 1 (.int .u64 t.b)) 2 (.int .u64 t.c)) 3 (.int .u64 t.d)
theorem set4_size (w : World) (b : Nat) (s : NS) : (set4 w b s).heap.size = w.heap.size := by simp [set4, World.setCell]
theorem set4_other (w : World) (b : Nat) (s : NS) (k : Nat) (h : k ≠ b) : (set4 w b s).heap[k]? = w.heap[k]? := by
  unfold set4
  rw [Below.heap_setCell _ _ _ k (fun e => h e), Below.heap_setCell _ _ _ k (fun e => h e), Below.heap_setCell _ _ _ k (fun e => h e), Below.heap_setCell _ _ _ k (fun e => h e)]
theorem set4_below {B : Nat} {w w' : World} (h : Below B w w') (b : Nat) (s : NS) (hb : B ≤ b) : Below B w (set4 w' b s) :=
  ⟨h.os, h.tape, h.output, by rw [set4_size]; exact h.size, fun k hk => (set4_other w' b s k (by omega)).trans (h.block k hk)⟩

/-- What the loop of nodesUsed keeps. -/
def usedI (W : World) (b nr n : Nat) (B : Nat → OpD) (i : Value) (wr : World) : Prop :=
  ∃ k : Nat, k ≤ n ∧ i = .int .i64 (k : Int) ∧ At wr b (used nr B k) ∧ Below b W wr

theorem used_no {nr : Nat} {B : Nat → OpD} {k : Nat} (h : ¬ M.Names (B k)) : used nr B (k + 1) = used nr B k := by rw [used, if_neg h]
theorem used_yes {nr : Nat} {B : Nat → OpD} {k : Nat} (h : M.Names (B k)) : used nr B (k + 1) = (used nr B k).put (M.tg nr (B k)) := by rw [used, if_pos h]

theorem used_bel {W1 wr X W2 W3 : World} {b : Nat} {u : NS} (h1 : Below b W1 wr) (h2 : Below wr.heap.size wr X) (h3 : Below X.heap.size X W2) (h4 : Below W2.heap.size W2 W3) (ha : At wr b u) (t : NS) : Below b W1 (set4 W3 b t) :=
  set4_below (h1.trans ((bel_tr (bel_tr h2 h3) h4).mono (Nat.le_of_lt ha.lt))) b t (Nat.le_refl _)

set_option maxRecDepth 100000 in
set_option maxHeartbeats 4000000 in
theorem nodesUsed_any (Q : Nat → Prop) (ra la a : Option Addr) (nr rc nb lc n c : Nat) (B : Nat → OpD) (w : World) (hB : OpsA Q w a n B) (hok : ∀ i, i < n → M.ElemOK nr nb (B i)) (hn : n ≤ 1048576) (h1 : nr ≤ 100) (h2 : nb ≤ 100) :
    Calls Try.prog 133 #[.agg #[.slice ra nr rc, .slice la nb lc], .slice a n c] w fun e w' => e = .returned (nsv (used nr B n)) ∧ Below w.heap.size w w' := by
  have HB : Hid (OpsA Q w a n B) := hB
  have HK : Hid (∀ i, i < n → M.ElemOK nr nb (B i)) := hok
  clear hB hok
  go_enter Try.func133, Try.ntmps133
  go_wp2
  have f0 : (((w.alloc (.cells #[.slice ra nr rc, .slice la nb lc] 36)).alloc (nsc nz)).alloc (nsc nz)).cell? ⟨w.heap.size, 0, none⟩ = some (.slice ra nr rc) := cell_on (cell_on (cN w.heap.size rfl rfl) (bel1 _ _)) (bel1 _ _)
  have f1 : (((w.alloc (.cells #[.slice ra nr rc, .slice la nb lc] 36)).alloc (nsc nz)).alloc (nsc nz)).cell? ⟨w.heap.size, 1, none⟩ = some (.slice la nb lc) := cell_on (cell_on (cN w.heap.size rfl rfl) (bel1 _ _)) (bel1 _ _)
  have f2 : At (((w.alloc (.cells #[.slice ra nr rc, .slice la nb lc] 36)).alloc (nsc nz)).alloc (nsc nz)) (w.heap.size + 1) nz := by
    have := At.new (w.alloc (.cells #[.slice ra nr rc, .slice la nb lc] 36)) nz
    rw [World.size_alloc] at this
    exact this.later (bel1 _ _)
  have f3 : At (((w.alloc (.cells #[.slice ra nr rc, .slice la nb lc] 36)).alloc (nsc nz)).alloc (nsc nz)) (w.heap.size + 1 + 1) nz := by
    have := At.new ((w.alloc (.cells #[.slice ra nr rc, .slice la nb lc] 36)).alloc (nsc nz)) nz
    rw [World.size_alloc, World.size_alloc] at this
    exact this
  have f4 : Below w.heap.size w (((w.alloc (.cells #[.slice ra nr rc, .slice la nb lc] 36)).alloc (nsc nz)).alloc (nsc nz)) := bel3 w _ _ _
  have f5 : (((w.alloc (.cells #[.slice ra nr rc, .slice la nb lc] 36)).alloc (nsc nz)).alloc (nsc nz)).heap.size = w.heap.size + 3 := by simp
  rw [show (Obj.cells #[.int .u64 0, .int .u64 0, .int .u64 0, .int .u64 0] 100) = nsc nz from rfl]
  generalize (((w.alloc (.cells #[.slice ra nr rc, .slice la nb lc] 36)).alloc (nsc nz)).alloc (nsc nz)) = W1 at *
  have H4 : Hid (Below w.heap.size w W1) := f4
  clear f4
  go_loopw [10] (fun i wr => usedI W1 (w.heap.size + 1 + 1) nr n B i wr) (fun i _ => n - (intOf i).toNat)
  case atStart => exact ⟨0, Nat.zero_le _, rfl, f3, Below.refl _ _⟩
  case round =>
    obtain ⟨k, hk, rfl, hat, hbel⟩ := hrel
    have hbw : Below w.heap.size w wr := H4.out.trans (hbel.mono (by omega))
    have g0 : wr.cell? ⟨w.heap.size, 0, none⟩ = some (.slice ra nr rc) := (hbel.cell (p := ⟨w.heap.size, 0, none⟩) (Nat.lt_trans (Nat.lt_succ_self _) (Nat.lt_succ_self _))).trans f0
    have g1 : wr.cell? ⟨w.heap.size, 1, none⟩ = some (.slice la nb lc) := (hbel.cell (p := ⟨w.heap.size, 1, none⟩) (Nat.lt_trans (Nat.lt_succ_self _) (Nat.lt_succ_self _))).trans f1
    have hat1 : At wr (w.heap.size + 1) nz := f2.keep (hbel.block _ (by omega))
    have HAT : Hid (At wr (w.heap.size + 1 + 1) (used nr B k)) := hat
    obtain ⟨u0, u1, u2, u3⟩ := hat.cells
    obtain ⟨v0, v1, v2, v3⟩ := hat.soft
    have hlt' := hat.lt
    have HBW : Hid (Below w.heap.size w wr) := hbw
    have HBE : Hid (Below (w.heap.size + 1 + 1) W1 wr) := hbel
    by_cases hlt : k < n
    · have hB := HB.out.later hbw
      rcases hB with h0 | ⟨b, off, rfl, hq, hB⟩
      · omega
      obtain ⟨c0, ⟨sa, sc, c1, hs⟩, c2⟩ := hB k hlt
      have hbl : b < wr.heap.size := lt_of_cell c0
      clear hB hs hbw hbel hat hat1 f0 f1 f2 f3
      have hE := HK.out k hlt
      by_cases hN : M.Names (B k)
      · have HN : Hid (M.Names (B k)) := hN
        have ht := tg_lt hE hN
        have ha0 : 0 ≤ (B k).arg := hE.2.2.2.2.1
        have ha1 : (B k).arg ≤ 1048576 := by have := hE.2.2.2.2.2; unfold M.most at this; split at this <;> (try split at this) <;> omega
        have HT : Hid (M.tg nr (B k) < 256) := by show _ < _; omega
        have HX : Hid ((used nr B k).OK) := used_ok nr B k
        clear hE ht
        by_cases e2 : (B k).kind = 2
        · have f2 : ((B k).kind == 2) = true := by simp [e2]
          clear hN e2
          have x0 : (wr.alloc (.cells #[.int .i64 (B k).kind, .slice sa (B k).sl sc, .int .i64 (B k).arg] 95)).cell? ⟨wr.heap.size, 0, none⟩ = some (.int .i64 (B k).kind) := cN wr.heap.size rfl rfl
          have x1 : (wr.alloc (.cells #[.int .i64 (B k).kind, .slice sa (B k).sl sc, .int .i64 (B k).arg] 95)).cell? ⟨wr.heap.size, 1, none⟩ = some (.slice sa (B k).sl sc) := cN wr.heap.size rfl rfl
          have x2 : (wr.alloc (.cells #[.int .i64 (B k).kind, .slice sa (B k).sl sc, .int .i64 (B k).arg] 95)).cell? ⟨wr.heap.size, 2, none⟩ = some (.int .i64 (B k).arg) := cN wr.heap.size rfl rfl
          have xg0 := cellOn (.cells #[.int .i64 (B k).kind, .slice sa (B k).sl sc, .int .i64 (B k).arg] 95) g0
          have xg1 := cellOn (.cells #[.int .i64 (B k).kind, .slice sa (B k).sl sc, .int .i64 (B k).arg] 95) g1
          have xu0 := cellOn (.cells #[.int .i64 (B k).kind, .slice sa (B k).sl sc, .int .i64 (B k).arg] 95) u0
          have xu1 := cellOn (.cells #[.int .i64 (B k).kind, .slice sa (B k).sl sc, .int .i64 (B k).arg] 95) u1
          have xu2 := cellOn (.cells #[.int .i64 (B k).kind, .slice sa (B k).sl sc, .int .i64 (B k).arg] 95) u2
          have xu3 := cellOn (.cells #[.int .i64 (B k).kind, .slice sa (B k).sl sc, .int .i64 (B k).arg] 95) u3
          have xb : Hid (Below wr.heap.size wr (wr.alloc (.cells #[.int .i64 (B k).kind, .slice sa (B k).sl sc, .int .i64 (B k).arg] 95))) := bel1 wr _
          have HAX : Hid (At (wr.alloc (.cells #[.int .i64 (B k).kind, .slice sa (B k).sl sc, .int .i64 (B k).arg] 95)) (w.heap.size + 1 + 1) (used nr B k)) := HAT.out.later (bel1 wr _)
          go_wp2
          generalize wr.alloc (.cells #[.int .i64 (B k).kind, .slice sa (B k).sl sc, .int .i64 (B k).arg] 95) = X at *
          go_region_with (first | (go_at_call 139; refine (nodeMeant_any ra la sa nr rc nb lc sc (B k) _ ha0 ha1 (by omega)).mono ?_; rintro e W2 ⟨rfl, hb2⟩; have at2 := HAX.out.later ((Below.refl _ X).drew.trans hb2); obtain ⟨yu0, yu1, yu2, yu3⟩ := at2.cells; have HA2 : Hid (At W2 (w.heap.size + 1 + 1) (used nr B k)) := at2; clear at2; have HB2 : Hid (Below X.heap.size X W2) := (Below.refl _ X).drew.trans hb2; clear hb2) | (go_at_call 140; refine (with_agg (used nr B k) (M.tg nr (B k)) _ HX.out HT.out).mono ?_; rintro e W3 ⟨⟨t, ht, rfl⟩, hb3⟩; have HTT : Hid (t = (used nr B k).put (M.tg nr (B k))) := ht; clear ht; have at3 := HA2.out.later hb3; obtain ⟨zu0, zu1, zu2, zu3⟩ := at3.cells; obtain ⟨zv0, zv1, zv2, zv3⟩ := at3.soft; have HA3 : Hid (At W3 (w.heap.size + 1 + 1) (used nr B k)) := at3; have lt3 := at3.lt; clear at3; have HB3 : Hid (Below W2.heap.size W2 W3) := hb3; clear hb3))
          all_goals go_wp2
          all_goals go_roundw
          all_goals first
            | exact ⟨k + 1, by omega, by go_num, by rw [used_yes HN.out, ← HTT.out]; exact HA3.out.set t, used_bel HBE.out xb.out HB2.out HB3.out HAT.out t⟩
            | (simp [intOf]; omega)
        · have f2 : ((B k).kind == 2) = false := by simp [e2]
          have f3 : ((B k).kind == 3) = true := by rcases hN with q | q; exact absurd q e2; simp [q]
          clear hN e2
          have x0 : (wr.alloc (.cells #[.int .i64 (B k).kind, .slice sa (B k).sl sc, .int .i64 (B k).arg] 95)).cell? ⟨wr.heap.size, 0, none⟩ = some (.int .i64 (B k).kind) := cN wr.heap.size rfl rfl
          have x1 : (wr.alloc (.cells #[.int .i64 (B k).kind, .slice sa (B k).sl sc, .int .i64 (B k).arg] 95)).cell? ⟨wr.heap.size, 1, none⟩ = some (.slice sa (B k).sl sc) := cN wr.heap.size rfl rfl
          have x2 : (wr.alloc (.cells #[.int .i64 (B k).kind, .slice sa (B k).sl sc, .int .i64 (B k).arg] 95)).cell? ⟨wr.heap.size, 2, none⟩ = some (.int .i64 (B k).arg) := cN wr.heap.size rfl rfl
          have xg0 := cellOn (.cells #[.int .i64 (B k).kind, .slice sa (B k).sl sc, .int .i64 (B k).arg] 95) g0
          have xg1 := cellOn (.cells #[.int .i64 (B k).kind, .slice sa (B k).sl sc, .int .i64 (B k).arg] 95) g1
          have xu0 := cellOn (.cells #[.int .i64 (B k).kind, .slice sa (B k).sl sc, .int .i64 (B k).arg] 95) u0
          have xu1 := cellOn (.cells #[.int .i64 (B k).kind, .slice sa (B k).sl sc, .int .i64 (B k).arg] 95) u1
          have xu2 := cellOn (.cells #[.int .i64 (B k).kind, .slice sa (B k).sl sc, .int .i64 (B k).arg] 95) u2
          have xu3 := cellOn (.cells #[.int .i64 (B k).kind, .slice sa (B k).sl sc, .int .i64 (B k).arg] 95) u3
          have xb : Hid (Below wr.heap.size wr (wr.alloc (.cells #[.int .i64 (B k).kind, .slice sa (B k).sl sc, .int .i64 (B k).arg] 95))) := bel1 wr _
          have HAX : Hid (At (wr.alloc (.cells #[.int .i64 (B k).kind, .slice sa (B k).sl sc, .int .i64 (B k).arg] 95)) (w.heap.size + 1 + 1) (used nr B k)) := HAT.out.later (bel1 wr _)
          go_wp2
          generalize wr.alloc (.cells #[.int .i64 (B k).kind, .slice sa (B k).sl sc, .int .i64 (B k).arg] 95) = X at *
          go_region_with (first | (go_at_call 139; refine (nodeMeant_any ra la sa nr rc nb lc sc (B k) _ ha0 ha1 (by omega)).mono ?_; rintro e W2 ⟨rfl, hb2⟩; have at2 := HAX.out.later ((Below.refl _ X).drew.trans hb2); obtain ⟨yu0, yu1, yu2, yu3⟩ := at2.cells; have HA2 : Hid (At W2 (w.heap.size + 1 + 1) (used nr B k)) := at2; clear at2; have HB2 : Hid (Below X.heap.size X W2) := (Below.refl _ X).drew.trans hb2; clear hb2) | (go_at_call 140; refine (with_agg (used nr B k) (M.tg nr (B k)) _ HX.out HT.out).mono ?_; rintro e W3 ⟨⟨t, ht, rfl⟩, hb3⟩; have HTT : Hid (t = (used nr B k).put (M.tg nr (B k))) := ht; clear ht; have at3 := HA2.out.later hb3; obtain ⟨zu0, zu1, zu2, zu3⟩ := at3.cells; obtain ⟨zv0, zv1, zv2, zv3⟩ := at3.soft; have HA3 : Hid (At W3 (w.heap.size + 1 + 1) (used nr B k)) := at3; have lt3 := at3.lt; clear at3; have HB3 : Hid (Below W2.heap.size W2 W3) := hb3; clear hb3))
          all_goals go_wp2
          all_goals go_roundw
          all_goals first
            | exact ⟨k + 1, by omega, by go_num, by rw [used_yes HN.out, ← HTT.out]; exact HA3.out.set t, used_bel HBE.out xb.out HB2.out HB3.out HAT.out t⟩
            | (simp [intOf]; omega)
      · have f2 : ((B k).kind == 2) = false := by simp; exact fun q => hN (.inl q)
        have f3 : ((B k).kind == 3) = false := by simp; exact fun q => hN (.inr q)
        have HN : Hid (¬ M.Names (B k)) := hN
        clear hN hE
        go_wp2
        go_roundw
        case rel => exact ⟨k + 1, by omega, by go_num, by rw [used_no HN.out]; exact HAT.out.later (bel1 wr _), HBE.out.trans ((bel1 wr _).mono (by omega))⟩
        case measure => simp [intOf]; omega
    · obtain rfl : k = n := by omega
      obtain ⟨y0, y1, y2, y3⟩ := hat1.cells
      obtain ⟨z0, z1, z2, z3⟩ := hat1.soft
      clear hbw hbel hat hat1 f0 f1 f2 f3
      go_wp2
      refine bodyPost_ret (v := nsv (used nr B k)) (by simp [results, Try.f133, go_sem, nsv, *]) rfl ?_
      exact ⟨rfl, set4_below HBW.out (w.heap.size + 1) (used nr B k) (by omega)⟩

end Go.Proofs.Ytjndcajblpgjmaa
