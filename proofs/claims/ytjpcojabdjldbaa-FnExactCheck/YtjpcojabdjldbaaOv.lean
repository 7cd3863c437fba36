/-
  Walks: the value of an element (openingOf's closure).
-/
import Derived.Test.YtjpcojabdjldbaaOpn
namespace Go.Proofs.Ytjpcojabdjldbaa
open Go.RowKit
open M (OpD NodeD Gr)
set_option linter.unusedVariables false
set_option linter.unusedSimpArgs false

theorem ret_opn {n l : Bool} {a b c d : Int} {x : Opn} (h0 : n = x.nul) (h1 : a = x.beg.a) (h2 : b = x.beg.b) (h3 : c = x.beg.c) (h4 : d = x.beg.d) (h5 : l = x.loop) :
    Ending.returned (.agg #[.bool n, .int .u64 a, .int .u64 b, .int .u64 c, .int .u64 d, .bool l]) = .returned (opv x) := by
  rw [h0, h1, h2, h3, h4, h5]; rfl

/-- A block that holds an opening. -/
def ops6 (x : Opn) : Obj := .cells #[.bool x.nul, .int .u64 x.beg.a, .int .u64 x.beg.b, .int .u64 x.beg.c, .int .u64 x.beg.d, .bool x.loop] 95
def At6 (w : World) (b : Nat) (x : Opn) : Prop := w.heap[b]? = some (ops6 x)
theorem At6.cells {w : World} {b : Nat} {x : Opn} (h : At6 w b x) : w.cell? ⟨b, 0, none⟩ = some (.bool x.nul) ∧ w.cell? ⟨b, 1, none⟩ = some (.int .u64 x.beg.a) ∧ w.cell? ⟨b, 2, none⟩ = some (.int .u64 x.beg.b) ∧ w.cell? ⟨b, 3, none⟩ = some (.int .u64 x.beg.c) ∧ w.cell? ⟨b, 4, none⟩ = some (.int .u64 x.beg.d) ∧ w.cell? ⟨b, 5, none⟩ = some (.bool x.loop) := by
  unfold At6 at h
  simp [World.cell?, h, ops6]
theorem At6.soft {w : World} {b : Nat} {x : Opn} (h : At6 w b x) : w.frozen? ⟨b, 0, none⟩ = false ∧ w.frozen? ⟨b, 1, none⟩ = false ∧ w.frozen? ⟨b, 2, none⟩ = false ∧ w.frozen? ⟨b, 3, none⟩ = false ∧ w.frozen? ⟨b, 4, none⟩ = false ∧ w.frozen? ⟨b, 5, none⟩ = false := by
  unfold At6 at h
  simp [World.frozen?, h, ops6]
theorem At6.lt {w : World} {b : Nat} {x : Opn} (h : At6 w b x) : b < w.heap.size := (Array.getElem?_eq_some_iff.1 h).1
theorem At6.new (w : World) (x : Opn) : At6 (w.alloc (ops6 x)) w.heap.size x := World.alloc_heap_new w (ops6 x)
theorem At6.later {w w' : World} {b : Nat} {x : Opn} (h : At6 w b x) (k : Below w.heap.size w w') : At6 w' b x := (k.block b h.lt).trans h
def set6 (w : World) (b : Nat) (x : Opn) : World := (((((w.setCell ⟨b, 0, none⟩ (.bool x.nul)).setCell ⟨b, 1, none⟩ (.int .u64 x.beg.a)).setCell ⟨b, 2, none⟩ (.int .u64 x.beg.b)).setCell ⟨b, 3, none⟩ (.int .u64 x.beg.c)).setCell ⟨b, 4, none⟩ (.int .u64 x.beg.d)).setCell ⟨b, 5, none⟩ (.bool x.loop)
theorem set6_size (w : World) (b : Nat) (x : Opn) : (set6 w b x).heap.size = w.heap.size := by simp [set6, World.setCell]
theorem set6_other (w : World) (b : Nat) (x : Opn) (k : Nat) (h : k ≠ b) : (set6 w b x).heap[k]? = w.heap[k]? := by
  unfold set6
  rw [Below.heap_setCell _ _ _ k (fun e => h e), Below.heap_setCell _ _ _ k (fun e => h e), Below.heap_setCell _ _ _ k (fun e => h e), Below.heap_setCell _ _ _ k (fun e => h e), Below.heap_setCell _ _ _ k (fun e => h e), Below.heap_setCell _ _ _ k (fun e => h e)]
theorem set6_below {B : Nat} {w w' : World} (h : Below B w w') (b : Nat) (x : Opn) (hb : B ≤ b) : Below B w (set6 w' b x) := by
  unfold set6
  exact (((((h.setCell (p := ⟨b, 0, none⟩) hb _).setCell (p := ⟨b, 1, none⟩) hb _).setCell (p := ⟨b, 2, none⟩) hb _).setCell (p := ⟨b, 3, none⟩) hb _).setCell (p := ⟨b, 4, none⟩) hb _).setCell (p := ⟨b, 5, none⟩) hb _
theorem At6.far {w : World} {b c : Nat} {x : Opn} (h : At6 w b x) (z : Opn) (hne : ¬ b = c) : At6 (set6 w c z) b x := (set6_other w c z b hne).trans h
theorem held_set {V : World} {lb rb c : Nat} {x y : Opn} (h : At6 V lb x) (k : At6 V rb y) (n1 : ¬ lb = c) (n2 : ¬ rb = c) (z : Opn) :
    (set6 V c z).cell? ⟨lb, 0, none⟩ = some (.bool x.nul) ∧ (set6 V c z).cell? ⟨lb, 1, none⟩ = some (.int .u64 x.beg.a) ∧ (set6 V c z).cell? ⟨lb, 2, none⟩ = some (.int .u64 x.beg.b) ∧ (set6 V c z).cell? ⟨lb, 3, none⟩ = some (.int .u64 x.beg.c) ∧ (set6 V c z).cell? ⟨lb, 4, none⟩ = some (.int .u64 x.beg.d) ∧ (set6 V c z).cell? ⟨lb, 5, none⟩ = some (.bool x.loop) ∧
    (set6 V c z).cell? ⟨rb, 0, none⟩ = some (.bool y.nul) ∧ (set6 V c z).cell? ⟨rb, 1, none⟩ = some (.int .u64 y.beg.a) ∧ (set6 V c z).cell? ⟨rb, 2, none⟩ = some (.int .u64 y.beg.b) ∧ (set6 V c z).cell? ⟨rb, 3, none⟩ = some (.int .u64 y.beg.c) ∧ (set6 V c z).cell? ⟨rb, 4, none⟩ = some (.int .u64 y.beg.d) ∧ (set6 V c z).cell? ⟨rb, 5, none⟩ = some (.bool y.loop) := by
  obtain ⟨a0, a1, a2, a3, a4, a5⟩ := (h.far z n1).cells
  obtain ⟨b0, b1, b2, b3, b4, b5⟩ := (k.far z n2).cells
  exact ⟨a0, a1, a2, a3, a4, a5, b0, b1, b2, b3, b4, b5⟩
theorem at6_one (X : World) (x y : Opn) : At6 ((X.alloc (ops6 x)).alloc (ops6 y)).drew X.heap.size x := (At6.new X x).later ((bel1 _ _).drew)
theorem at6_two (X : World) (x y : Opn) : At6 ((X.alloc (ops6 x)).alloc (ops6 y)).drew (X.heap.size + 1) y := by
  have := At6.new (X.alloc (ops6 x)) y
  rw [World.size_alloc] at this
  exact this.later ((Below.refl _ _).drew)
/-- The zero opening. -/
def oz : Opn := ⟨false, nz, false⟩

set_option maxRecDepth 100000 in
set_option maxHeartbeats 4000000 in
theorem ov_leaf (gb mb : Nat) (ra la sa oa : Option Addr) (nr rc nb lc sc ol oc : Nat) (mk : NS) (o : OpD) (w : World) (hC : Caught w gb mb ra la nr rc nb lc mk) (hk : o.kind = 0 ∨ o.kind = 1) :
    Calls Try.prog 104 #[.agg #[.int .i64 o.kind, .slice sa o.sl sc, .int .i64 o.arg], .slice oa ol oc, .pointer (some ⟨gb, 0, none⟩), .pointer (some ⟨mb, 0, none⟩)] w (IsOpn (valO nr mk o default default) w) := by
  have hN : ¬ M.Names o := by rintro (q | q) <;> omega
  rcases hk with hk | hk
  · have HK : Hid (o.kind = 0) := hk
    have f0 : (o.kind == 0) = true := by simp [hk]
    clear hk
    go_enter Try.func104, Try.ntmps104
    go_wp2
    refine bodyPost_ret (by simp [results, Try.f104, go_sem]; rfl) rfl ?_
    refine ⟨ret_opn ?_ ?_ ?_ ?_ ?_ ?_, bel2 w _ _⟩ <;> simp [valO, HK.out, nz]
  · have HK : Hid (o.kind = 1) := hk
    have f0 : (o.kind == 0) = false := by simp [hk]
    have f2 : (o.kind == 2) = false := by simp [hk]
    have f3 : (o.kind == 3) = false := by simp [hk]
    have f4 : (o.kind == 4) = false := by simp [hk]
    have f5 : (o.kind == 5) = false := by simp [hk]
    have f6 : (o.kind == 6) = false := by simp [hk]
    have f7 : (o.kind == 7) = false := by simp [hk]
    clear hk
    go_enter Try.func104, Try.ntmps104
    go_wp2
    refine bodyPost_ret (by simp [results, Try.f104, go_sem]; rfl) rfl ?_
    refine ⟨ret_opn ?_ ?_ ?_ ?_ ?_ ?_, bel2 w _ _⟩ <;> simp [valO, HK.out, nz, hN]

theorem has_agg (s : NS) (p : Nat) (w : World) (hs : s.OK) (hp : p < 256) :
    Calls Try.prog 63 #[.agg #[.int .u64 s.a, .int .u64 s.b, .int .u64 s.c, .int .u64 s.d], .int .i64 p] w fun e w' => (∃ r, r = s.has p ∧ e = .returned (.bool r)) ∧ Below w.heap.size w w' :=
  (has_any s p w hs hp).mono (fun e w' h => ⟨⟨_, rfl, h.1⟩, by rw [h.2]; exact bel1 w _⟩)
theorem with_zero (p : Nat) (w : World) (hp : p < 256) :
    Calls Try.prog 106 #[.agg #[.int .u64 0, .int .u64 0, .int .u64 0, .int .u64 0], .int .i64 p] w fun e w' => (∃ t, t = nz.put p ∧ e = .returned (.agg #[.int .u64 t.a, .int .u64 t.b, .int .u64 t.c, .int .u64 t.d])) ∧ Below w.heap.size w w' :=
  with_agg nz p w NS.OK.zero hp

set_option maxRecDepth 100000 in
set_option maxHeartbeats 4000000 in
theorem ov_name (gb mb : Nat) (ra la sa oa : Option Addr) (nr rc nb lc sc ol oc : Nat) (mk : NS) (o : OpD) (w : World) (hC : Caught w gb mb ra la nr rc nb lc mk) (hk : M.Names o) (hE : M.ElemOK nr nb o) (hm : mk.OK) (h1 : nr ≤ 100) (h2 : nb ≤ 100) :
    Calls Try.prog 104 #[.agg #[.int .i64 o.kind, .slice sa o.sl sc, .int .i64 o.arg], .slice oa ol oc, .pointer (some ⟨gb, 0, none⟩), .pointer (some ⟨mb, 0, none⟩)] w (IsOpn (valO nr mk o default default) w) := by
  have HN : Hid (M.Names o) := hk
  have ht := tg_lt hE hk
  have ha0 : 0 ≤ o.arg := hE.2.2.2.2.1
  have ha1 : o.arg ≤ 1048576 := by have := hE.2.2.2.2.2; unfold M.most at this; split at this <;> (try split at this) <;> omega
  have HT : Hid (M.tg nr o < 256) := by show _ < _; omega
  have HM : Hid mk.OK := hm
  have H0 : Hid (¬ o.kind = 0) := by rcases hk with q | q <;> (show ¬ _; omega)
  have f0 : (o.kind == 0) = false := by simp; exact H0.out
  have HC : Hid (Caught w gb mb ra la nr rc nb lc mk) := hC
  have g0 := hC.g0
  have g1 := hC.g1
  have hgb : gb < w.heap.size := lt_of_cell g0
  have hv : Hid (valO nr mk o default default = ⟨mk.has (M.tg nr o), nz.put (M.tg nr o), false⟩) := by show _ = _; simp [valO, H0.out, HN.out]
  have key : (o.kind == 2) = true ∨ ((o.kind == 2) = false ∧ (o.kind == 3) = true) := by
    rcases hk with q | q
    · left; simp [q]
    · right; simp [q]
  clear hE hm hC ht hk
  rcases key with f2 | ⟨f2, f3⟩
  all_goals (
    go_enter Try.func104, Try.ntmps104
    go_wp2_with fail
    have AX : Hid (At6 ((w.alloc (.cells #[.int .i64 o.kind, .slice sa o.sl sc, .int .i64 o.arg] 80)).alloc (ops6 oz)) (w.heap.size + 1) oz) := by
      have := At6.new (w.alloc (.cells #[.int .i64 o.kind, .slice sa o.sl sc, .int .i64 o.arg] 80)) oz
      rw [World.size_alloc] at this
      exact this
    refine (nodeMeant_any ra la sa nr rc nb lc sc o _ ha0 ha1 (by omega)).mono ?_
    rintro e W ⟨rfl, hb⟩
    have bW : Hid (Below w.heap.size w W) := bel_tr (bel2 w _ _) hb
    obtain ⟨m0, m1, m2, m3⟩ := (HC.out.m.later bW.out).cells
    have AW : Hid (At6 W (w.heap.size + 1) oz) := AX.out.later hb
    clear hb g0 g1 AX
    go_wp2_with (first | (go_at_call 63; refine (has_agg mk (M.tg nr o) _ HM.out HT.out).mono ?_; rintro e W2 ⟨⟨r, hr, rfl⟩, hb2⟩; have HR : Hid (r = mk.has (M.tg nr o)) := hr; have HB2 : Hid (Below W.heap.size W W2) := hb2; clear hr hb2) | (go_at_call 106; refine (with_zero (M.tg nr o) _ HT.out).mono ?_; rintro e W3 ⟨⟨t, ht, rfl⟩, hb3⟩; have HTT : Hid (t = nz.put (M.tg nr o)) := ht; have HB3 : Hid (Below W.heap.size W W3) := bel_tr HB2.out hb3; clear ht hb3; obtain ⟨z0, z1, z2, z3, z4, z5⟩ := (AW.out.later HB3.out).cells; obtain ⟨s0, s1, s2, s3, s4, s5⟩ := (AW.out.later HB3.out).soft))
    refine bodyPost_ret (v := opv ⟨r, t, false⟩) (by simp [results, Try.f104, go_sem, opv, *]) rfl ?_
    exact ⟨by rw [hv.out, HR.out, HTT.out], set6_below (bel_tr bW.out HB3.out) (w.heap.size + 1) ⟨r, t, false⟩ (by omega)⟩)

end Go.Proofs.Ytjpcojabdjldbaa
