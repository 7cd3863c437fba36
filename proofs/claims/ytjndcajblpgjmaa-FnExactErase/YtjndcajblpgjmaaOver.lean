/-
  Walks: the limits.
-/
import Derived.Test.YtjndcajblpgjmaaNodes
namespace Go.Proofs.Ytjndcajblpgjmaa
open Go.RowKit Go.Shelf
open M (OpD NodeD Gr)
set_option linter.unusedVariables false
attribute [local go_sem] Oper.semAt_some

def sumN (g : Gr) (p : Nat) : Nat := M.sum (fun i => (nd g i).bl) p
theorem sumN_succ (g : Gr) (p : Nat) : sumN g (p + 1) = sumN g p + (nd g p).bl := rfl
def Over (g : Gr) : Prop := 100 < g.nr ∨ 100 < g.nb ∨ ∃ p, p < g.nr + g.nb ∧ (2000 < sumN g (p + 1) ∨ 32 < (nd g p).nl)

/-- What the function's own boxes hold between two rounds: the answer at y + 1, the sum at y + 2. -/
structure OvOwn (w : World) (y : Nat) (s : Int) (x : World) : Prop where
  res : ∃ v, x.cell? ⟨y + 1, 0, none⟩ = some v
  resf : x.frozen? ⟨y + 1, 0, none⟩ = false
  sum : x.cell? ⟨y + 1 + 1, 0, none⟩ = some (.int .i64 s)
  sumf : x.frozen? ⟨y + 1 + 1, 0, none⟩ = false
  bel : Below y w x
  size : y + 4 ≤ x.heap.size
theorem OvOwn.below {w : World} {y : Nat} {s : Int} {x z : World} (h : OvOwn w y s x) (hb : Below (y + 4) x z) : OvOwn w y s z :=
  ⟨h.res.imp fun _ hv => (hb.cell (p := ⟨y + 1, 0, none⟩) (by show y + 1 < y + 4; omega)).trans hv,
    (hb.frozen (p := ⟨y + 1, 0, none⟩) (by show y + 1 < y + 4; omega)).trans h.resf,
    (hb.cell (p := ⟨y + 1 + 1, 0, none⟩) (by show y + 1 + 1 < y + 4; omega)).trans h.sum,
    (hb.frozen (p := ⟨y + 1 + 1, 0, none⟩) (by show y + 1 + 1 < y + 4; omega)).trans h.sumf, h.bel.trans (hb.mono (by omega)), Nat.le_trans h.size hb.size⟩

theorem OvOwn.store {w : World} {y : Nat} {s s' : Int} {x : World} (h : OvOwn w y s x) (hw : y ≤ w.heap.size) : OvOwn w y s' (x.setCell ⟨y + 1 + 1, 0, none⟩ (.int .i64 s')) :=
  ⟨h.res.imp fun _ hv => by rw [World.cell?_of_block (Below.heap_setCell x ⟨y + 1 + 1, 0, none⟩ _ (y + 1) (by simp))]; exact hv,
    (World.frozen?_setCell _ _ _ _).trans h.resf, World.cell?_setCell_same' _ _ _ (by rw [h.sum]; rfl), (World.frozen?_setCell _ _ _ _).trans h.sumf,
    h.bel.setCell (p := ⟨y + 1 + 1, 0, none⟩) (by show y ≤ y + 1 + 1; omega) _, by simpa [World.setCell] using h.size⟩
theorem OvOwn.answer {w : World} {y : Nat} {s : Int} {x : World} (h : OvOwn w y s x) : Below y w (x.setCell ⟨y + 1, 0, none⟩ (.bool true)) ∧ y + 4 ≤ (x.setCell ⟨y + 1, 0, none⟩ (.bool true)).heap.size ∧ (x.setCell ⟨y + 1, 0, none⟩ (.bool true)).cell? ⟨y + 1, 0, none⟩ = some (.bool true) :=
  ⟨h.bel.setCell (p := ⟨y + 1, 0, none⟩) (by show y ≤ y + 1; omega) _, by simpa [World.setCell] using h.size, by obtain ⟨v, hv⟩ := h.res; exact World.cell?_setCell_same' _ _ _ (by rw [hv]; rfl)⟩

def overI (w : World) (g : Gr) (p : Nat) (x : World) : Prop := OvOwn w w.heap.size (sumN g p : Nat) x ∧ p ≤ g.nr + g.nb ∧ sumN g p ≤ 2000 ∧ ∀ q, q < p → ¬ (2000 < sumN g (q + 1) ∨ 32 < (nd g q).nl)
def overX (w : World) (g : Gr) (cd : Code) (p : Nat) (x : World) : Prop :=
  cd = .ret ∧ Below w.heap.size w x ∧ w.heap.size + 4 ≤ x.heap.size ∧ x.cell? ⟨w.heap.size + 1, 0, none⟩ = some (.bool true) ∧ p < g.nr + g.nb ∧ (2000 < sumN g (p + 1) ∨ 32 < (nd g p).nl)

theorem cells2New (W : World) (v0 v1 : Value) (t : TypeId) : (W.alloc (.cells #[v0, v1] t)).cell? ⟨W.heap.size, 0, none⟩ = some v0 ∧ (W.alloc (.cells #[v0, v1] t)).cell? ⟨W.heap.size, 1, none⟩ = some v1 := by
  have h := World.alloc_heap_new W (.cells #[v0, v1] t)
  refine ⟨?_, ?_⟩ <;> simp only [World.cell?, h] <;> rfl

set_option maxRecDepth 100000 in
set_option maxHeartbeats 4000000 in
theorem overLimits_in (ra la : Option Addr) (rc lc : Nat) (g : Gr) (rb ro lb lo : Nat) (na ba : Nat → Option Addr) (nc bc : Nat → Nat) (w : World)
    (hs : SmallG g) (hF : ∀ W, Below w.heap.size w W → Flat W ra la g rb ro lb lo na ba nc bc) :
    CallsIn Fence.wide 0 Try.prog 58 #[.agg #[.slice ra g.nr rc, .slice la g.nb lc]] w (SaysB (Over g) w) := by
  have hdep : Fence.wide.depth = none := rfl
  have h1 := hs.nr
  have h2 := hs.nb
  have HF : Hid (∀ W, Below w.heap.size w W → Flat W ra la g rb ro lb lo na ba nc bc) := hF
  have hsn : ∀ p, p < g.nr + g.nb → (nd g p).bl ≤ 1048576 ∧ (nd g p).nl ≤ 1048576 := fun p hp => by
    unfold nd
    split
    · exact ⟨(hs.rule p (by omega)).body.1, (hs.rule p (by omega)).name⟩
    · exact ⟨(hs.lab (p - g.nr) (by omega)).body.1, (hs.lab (p - g.nr) (by omega)).name⟩
  have HS : Hid (∀ p, p < g.nr + g.nb → (nd g p).bl ≤ 1048576 ∧ (nd g p).nl ≤ 1048576) := hsn
  have hlr : 0 < g.nr → rb < w.heap.size := fun h => lt_of_cell ((hF w (Below.refl _ _)).r0 0 h)
  have hll : 0 < g.nb → lb < w.heap.size := fun h => lt_of_cell ((hF w (Below.refl _ _)).l0 0 h)
  clear hF hsn hs
  by_cases o1 : 100 < g.nr
  · have o1' : (100 : Int) < (g.nr : Int) := by omega
    refine callsIn_of_wp_marks Try.func58 rfl trivial ?_ rfl
    simp only [Try.ntmps58, List.size_toArray, List.length_cons, List.length_nil, Nat.reduceAdd, Nat.reduceSub, Array.replicate_succ, Array.replicate_zero, List.push_toArray, List.append_toArray, List.nil_append, List.cons_append]
    gi_wp2
    refine ⟨.bool true, ?_, ⟨true, rfl, iffT (.inl o1)⟩, bel2 w _ _⟩
    have := cellNew (w.alloc (Obj.cells #[Value.slice ra g.nr rc, Value.slice la g.nb lc] 36)) (.bool true) 4
    rw [World.size_alloc] at this
    simp [results, Try.f58, go_sem, this]
  have o1' : ¬ (100 : Int) < (g.nr : Int) := by omega
  by_cases o2 : 100 < g.nb
  · have o2' : (100 : Int) < (g.nb : Int) := by omega
    refine callsIn_of_wp_marks Try.func58 rfl trivial ?_ rfl
    simp only [Try.ntmps58, List.size_toArray, List.length_cons, List.length_nil, Nat.reduceAdd, Nat.reduceSub, Array.replicate_succ, Array.replicate_zero, List.push_toArray, List.append_toArray, List.nil_append, List.cons_append]
    gi_wp2
    refine ⟨.bool true, ?_, ⟨true, rfl, iffT (.inr (.inl o2))⟩, bel2 w _ _⟩
    have := cellNew (w.alloc (Obj.cells #[Value.slice ra g.nr rc, Value.slice la g.nb lc] 36)) (.bool true) 4
    rw [World.size_alloc] at this
    simp [results, Try.f58, go_sem, this]
  have o2' : ¬ (100 : Int) < (g.nb : Int) := by omega
  refine callsIn_of_wp_marks Try.func58 rfl trivial ?_ rfl
  simp only [Try.ntmps58, List.size_toArray, List.length_cons, List.length_nil, Nat.reduceAdd, Nat.reduceSub, Array.replicate_succ, Array.replicate_zero, List.push_toArray, List.append_toArray, List.nil_append, List.cons_append]
  gi_wp2_with (refine ⟨trivial, ?_⟩; gi_at_call 116; refine (nodes_in _ _ _ _ _ _ _).mono ?_; rintro e w' ⟨rfl, rfl⟩)
  obtain ⟨Wl, hWl⟩ : ∃ Wl, (((w.alloc (Obj.cells #[Value.slice ra g.nr rc, Value.slice la g.nb lc] 36)).alloc (Obj.cells #[Value.bool false] 4)).alloc (Obj.cells #[Value.int IntKind.i64 0] 3)).alloc (Obj.cells #[Value.slice ra g.nr rc, Value.slice la g.nb lc] 36) = Wl := ⟨_, rfl⟩
  have sWl : Wl.heap.size = w.heap.size + 4 := by rw [← hWl]; simp
  have bWl : Below w.heap.size w Wl := by rw [← hWl]; exact ((((Below.refl _ w).alloc (Nat.le_refl _) _).alloc (by simp) _).alloc (by simp; omega) _).alloc (by simp; omega) _
  have ha := cellNew (w.alloc (Obj.cells #[Value.slice ra g.nr rc, Value.slice la g.nb lc] 36)) (.bool false) 4
  have haf := frozenNew (w.alloc (Obj.cells #[Value.slice ra g.nr rc, Value.slice la g.nb lc] 36)) (.bool false) 4
  have hr := cellNew ((w.alloc (Obj.cells #[Value.slice ra g.nr rc, Value.slice la g.nb lc] 36)).alloc (Obj.cells #[Value.bool false] 4)) (.int .i64 0) 3
  have hrf := frozenNew ((w.alloc (Obj.cells #[Value.slice ra g.nr rc, Value.slice la g.nb lc] 36)).alloc (Obj.cells #[Value.bool false] 4)) (.int .i64 0) 3
  have hx := cells2New (((w.alloc (Obj.cells #[Value.slice ra g.nr rc, Value.slice la g.nb lc] 36)).alloc (Obj.cells #[Value.bool false] 4)).alloc (Obj.cells #[Value.int IntKind.i64 0] 3)) (.slice ra g.nr rc) (.slice la g.nb lc) 36
  simp only [World.size_alloc] at ha haf hr hrf hx
  rw [hWl] at hx
  have oWl : OvOwn w w.heap.size 0 Wl := ⟨⟨_, by rw [← hWl]; exact cellOn _ (cellOn _ ha)⟩, by rw [← hWl]; exact frozenOn _ (cellOn _ ha) (frozenOn _ ha haf), by rw [← hWl]; exact cellOn _ hr, by rw [← hWl]; exact frozenOn _ hr hrf, bWl, by omega⟩
  rw [hWl]
  clear hWl ha haf hr hrf
  refine range_law (gf := 167) (lb := #[.pointer (some ⟨w.heap.size + 1 + 1 + 1, 0, none⟩)]) rfl (enters_of Try.func167 (by kernel_rfl) rfl)
    (nodes_gives (w.heap.size + 1 + 1 + 1) ra la rc lc g rb ro lb lo na ba nc bc Wl h1 h2 hx.1 hx.2 (HF.out Wl bWl)) (fun _ => rfl) ?hD (fun k => k = w.heap.size + 1 ∨ k = w.heap.size + 1 + 1) ?hCD ?hCw
    (overI w g) (overX w g) ?hI ?hIx ?h0 ?round ?done ?stop
  case hD =>
    rintro k (rfl | ⟨rfl, hm0⟩ | ⟨rfl, hm0⟩)
    · omega
    · have := hlr hm0; omega
    · have := hll hm0; omega
  case hCD =>
    rintro k (rfl | ⟨rfl, hm0⟩ | ⟨rfl, hm0⟩) hc
    · omega
    · have := hlr hm0; omega
    · have := hll hm0; omega
  case hCw =>
    rintro k hk hc
    omega
  case hI =>
    rintro s A E ⟨ho, hp⟩ hbel
    exact ⟨ho.below (hbel.mono (by omega)), hp⟩
  case hIx =>
    rintro cd s A E ⟨rfl, hbe, hs, hc, hp⟩ hbel
    exact ⟨rfl, hbe.trans (hbel.mono (by omega)), Nat.le_trans hs hbel.size, (hbel.cell (p := ⟨w.heap.size + 1, 0, none⟩) (by show w.heap.size + 1 < _; omega)).trans hc, hp⟩
  case h0 => exact ⟨oWl, Nat.zero_le _, Nat.zero_le _, fun q hq => absurd hq (Nat.not_lt_zero _)⟩
  case round =>
    intro l' p x hl1 hl2 hIs hlt
    unfold ndEnc
    gi_wp2
    refine ⟨Keep.refl _ _, hIs, ?_⟩
    clear hIs
    rintro x2 hk2 hs2 ⟨ho, hc1, hc2, hI2⟩
    obtain ⟨rv, k1⟩ := ho.res
    have k2 := ho.resf
    have k3 := ho.sum
    have k4 := ho.sumf
    have HI : Hid _ := hI2
    obtain ⟨b1, b2⟩ := HS.out p hlt
    have hnx := sumN_succ g p
    have HX : Hid _ := hnx
    clear hI2 hnx
    have hst := OvOwn.store (s' := (sumN g p : Int) + ((nd g p).bl : Int)) ho (Nat.le_refl _)
    have HST : Hid (OvOwn w w.heap.size ((sumN g p : Int) + ((nd g p).bl : Int)) (x2.setCell ⟨w.heap.size + 1 + 1, 0, none⟩ (.int .i64 ((sumN g p : Int) + ((nd g p).bl : Int))))) := hst
    clear hst ho
    by_cases t1 : 2000 < sumN g p + (nd g p).bl
    · have t1' : (2000 : Int) < (sumN g p : Int) + ((nd g p).bl : Int) := by omega
      gi_wp2
      obtain ⟨a1, a2, a3⟩ := HST.out.answer
      exact ⟨(Keep.setCell _ _ _ (.inr rfl)).trans (Keep.setCell _ _ _ (.inl rfl)), rfl, a1, a2, a3, hlt, .inl (by have := HX.out; omega)⟩
    have t1' : ¬ (2000 : Int) < (sumN g p : Int) + ((nd g p).bl : Int) := by omega
    by_cases t2 : 32 < (nd g p).nl
    · have t2' : (32 : Int) < ((nd g p).nl : Int) := by omega
      gi_wp2
      obtain ⟨a1, a2, a3⟩ := HST.out.answer
      exact ⟨(Keep.setCell _ _ _ (.inr rfl)).trans (Keep.setCell _ _ _ (.inl rfl)), rfl, a1, a2, a3, hlt, .inr t2⟩
    have t2' : ¬ (32 : Int) < ((nd g p).nl : Int) := by omega
    gi_wp2
    have e : ((sumN g (p + 1) : Nat) : Int) = (sumN g p : Int) + ((nd g p).bl : Int) := by rw [HX.out]; omega
    exact ⟨Keep.setCell _ _ _ (.inr rfl), by rw [e]; exact HST.out, by omega, by have := HX.out; omega, all_snoc HI.out (by have := HX.out; omega)⟩
  case done =>
    rintro d p x hd hnm ⟨ho, hc1, hc2, hI2⟩ hK
    obtain ⟨rv, k1⟩ := ho.res
    have k2 := ho.resf
    gi_wp2
    have hne : d ≠ w.heap.size + 1 := by omega
    have hK' : (x.setCell ⟨w.heap.size + 1, 0, none⟩ (.bool false)).heap[d]? = some (.deferred (some [])) := (Below.heap_setCell x ⟨w.heap.size + 1, 0, none⟩ _ d hne).trans hK
    refine ⟨by simp, .inl ⟨_, _, rfl, run_takeDeferred hK', ?_⟩⟩
    have hbp := belowPut (B := w.heap.size + 4) (x.setCell ⟨w.heap.size + 1, 0, none⟩ (.bool false)) (.deferred none) (d := d) (by omega) (by simpa [World.setCell] using ho.size)
    have hc4 : (x.setCell ⟨w.heap.size + 1, 0, none⟩ (.bool false)).cell? ⟨w.heap.size + 1, 0, none⟩ = some (.bool false) := World.cell?_setCell_same' _ _ _ (by rw [k1]; rfl)
    have hc5 := (hbp.cell (p := ⟨w.heap.size + 1, 0, none⟩) (by show w.heap.size + 1 < _; omega)).trans hc4
    have hbf := (ho.bel.setCell (p := ⟨w.heap.size + 1, 0, none⟩) (by show w.heap.size ≤ w.heap.size + 1; omega) (.bool false)).trans (hbp.mono (by omega))
    refine ⟨.bool false, ?_, ⟨false, rfl, iffF ?_⟩, hbf⟩
    · simp [results, Try.f58, go_sem, hc5]
    · rintro (h | h | ⟨q, hq, h⟩)
      · exact o1 h
      · exact o2 h
      · exact hI2 q (by omega) h
  case stop =>
    rintro d cd p x hd hsm ⟨rfl, hbe, hsx, hcr, hc1, hI2⟩ hK
    gi_wp2
    refine ⟨by simp, .inl ⟨_, _, rfl, run_takeDeferred hK, ?_⟩⟩
    have hdx : d < x.heap.size := (Array.getElem?_eq_some_iff.1 hK).1
    have hbp := belowPut (B := w.heap.size + 4) x (.deferred none) (d := d) (by omega) hsx
    have hc5 := (hbp.cell (p := ⟨w.heap.size + 1, 0, none⟩) (by show w.heap.size + 1 < _; omega)).trans hcr
    have hbf := hbe.trans (hbp.mono (by omega))
    refine ⟨.bool true, ?_, ⟨true, rfl, iffT (.inr (.inr ⟨p, hc1, hI2⟩))⟩, hbf⟩
    simp [results, Try.f58, go_sem, hc5]

end Go.Proofs.Ytjndcajblpgjmaa
