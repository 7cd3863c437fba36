/-
  Walks: the bodies of all nodes.
-/
import Derived.Test.YtjpcojabdjldbaaNodes2
import Derived.Test.YtjpcojabdjldbaaValid
import Derived.Test.YtjpcojabdjldbaaAppC
import Derived.Test.YtjpcojabdjldbaaOne
import Derived.Test.YtjpcojabdjldbaaWork
namespace Go.Proofs.Ytjpcojabdjldbaa
open Go.RowKit Go.Shelf
open M (OpD NodeD Gr)
set_option linter.unusedVariables false
set_option linter.unusedSimpArgs false
attribute [local go_sem] Oper.semAt_some

/-- At the operation, in a walk that keeps to a fence. -/
theorem appCI {F : Fence} {N : Nat} {ops : Array Oper} {rest : List Oper} {o : Oper} {a : Act} {P' : Exit → Act → World → Prop} {w : World} (hgd : o.guard = none) (s x : Operand) (t tx : TypeId) (ho : o.op = .call { callee := .builtin .append, args := #[s, x], argTypes := #[t, tx] })
    {Q : Nat → Prop} {v y : Value} {e : TypeId} {sz bytes n m : Nat} {cs news : List Value} (hs : a.eval s = v) (hx : a.eval x = y) (hE : ElemT t e sz bytes) (hown : OwnC Q w v sz n cs) (hsrc : Src Try.prog sz tx y m news w) (hlen : n + m ≤ 16777216) (hm : v = .slice none 0 0 → 0 < m)
    (h : ∀ v' w', OwnC (fun b => Q b ∨ w.heap.size ≤ b) w' v' sz (n + m) (cs ++ news) → Grew (fun b => Q b) w w' → w'.heap.size ≤ w.heap.size + 1 → wpListIn F N Try.prog ops P' rest (a.put o.dst v') w') : wpListIn F N Try.prog ops P' (o :: rest) a w := by
  refine wpListIn_plain hgd fun K hK => ?_
  obtain ⟨v', w', hr, h1, h2, h3⟩ := appC_run' o.type hE hown hsrc hlen hm
  unfold Oper.wpIn
  refine ⟨?_, ?_⟩
  · simp [Oper.about, ho, resolve, Target.leads, Sem.run_pure]
  · rw [Oper.semAt_plain F _ _ (by rw [ho]; intro c hc'; cases hc')]
    simp [execOp, ho, resolve, invoke, builtin, hs, hx, hr, Result.andThen]
    exact hK _ _ (h v' w' h1 h2 h3)

def bodL (g : Gr) (ba : Nat → Option Addr) (bc : Nat → Nat) (p : Nat) : List Value := (List.range p).map (fun i => Value.slice (ba i) (nd g i).bl (bc i))
theorem bodL_succ (g : Gr) (ba : Nat → Option Addr) (bc : Nat → Nat) (p : Nat) : bodL g ba bc (p + 1) = bodL g ba bc p ++ [.slice (ba p) (nd g p).bl (bc p)] := by simp [bodL, List.range_succ]

theorem info58 : (Try.prog.info? 58).map (fun i => (i.zero, i.size, i.bytes)) = some (some (.slice none 0 0), 1, 24) := by kernel_rfl
theorem elem81 : ElemT 81 58 1 24 := ⟨Try.underlying81, ⟨_, info58, rfl⟩, by omega⟩
theorem src_slice {w : World} {g : Nat} {u : Value} (h0 : w.cell? ⟨g, 0, none⟩ = some u) (o0 : u.oneCell' = true) : Src Try.prog 1 81 (.slice (some ⟨g, 0, none⟩) 1 1) 1 [u] w := by
  refine Src.ofSlice (P := Try.prog) w Try.underlying81 ⟨g, 0, none⟩ 1 1 [u] rfl (fun j u' hu => ?_) (fun u' hu => ?_)
  · match j, hu with
    | 0, hu => simp at hu; subst hu; simpa [Addr.add] using h0
    | j + 1, hu => simp at hu
  · simp at hu
    subst hu
    exact o0

structure BodI (w : World) (g : Gr) (ba : Nat → Option Addr) (bc : Nat → Nat) (p : Nat) (x : World) : Prop where
  le : p ≤ g.nr + g.nb
  val : ∃ v, x.cell? ⟨w.heap.size + 1, 0, none⟩ = some v ∧ OwnC (fun b => w.heap.size + 4 < b) x v 1 p (bodL g ba bc p)
  soft : x.frozen? ⟨w.heap.size + 1, 0, none⟩ = false
  bel : Below w.heap.size w x
  size : w.heap.size + 3 ≤ x.heap.size

theorem BodI.keep {w : World} {g : Gr} {ba : Nat → Option Addr} {bc : Nat → Nat} {p : Nat} {A E : World} (h : BodI w g ba bc p A) (k : Keep (fun k => k = w.heap.size + 3 ∨ k = w.heap.size + 3 + 1) A E) : BodI w g ba bc p E := by
  have hs := h.size
  obtain ⟨v, h1, h2⟩ := h.val
  have e1 := k.block (w.heap.size + 1) (by omega) (fun q => by omega)
  refine ⟨h.le, ⟨v, (World.cell?_of_block (a := ⟨w.heap.size + 1, 0, none⟩) e1).trans h1, ?_⟩, (World.frozen?_of_block (a := ⟨w.heap.size + 1, 0, none⟩) e1).trans h.soft, ⟨k.os.trans h.bel.os, k.tape.trans h.bel.tape, k.output.trans h.bel.output, Nat.le_trans h.bel.size k.size, fun b hb => (k.block b (by omega) (fun q => by omega)).trans (h.bel.block b hb)⟩, Nat.le_trans hs k.size⟩
  rcases h2 with h2 | ⟨g', cap, e, hq, h3, h4, h5, h6⟩
  · exact .inl h2
  · by_cases hc : cap = 0
    · subst hc
      exact .inr ⟨g', 0, e, hq, h3, h4, fun j hj => absurd hj (by rw [h3]; omega), fun j hj => by omega⟩
    · have hg : g' < A.heap.size := by
        obtain ⟨u, hu⟩ := Option.isSome_iff_exists.1 (h6 0 (by omega)).1
        exact lt_of_cell hu
      have e' := k.block g' hg (fun q => by omega)
      exact .inr ⟨g', cap, e, hq, h3, h4, fun j hj => by rw [World.cell?_of_block (a := ⟨g', j, none⟩) e']; exact h5 j hj, h6.later e'⟩

theorem bod_step {w x2 W' : World} {g : Gr} {ba : Nat → Option Addr} {bc : Nat → Nat} {p : Nat} {a' : Option Addr} {c' : Nat} {v : Value} {o : Obj} (hI : BodI w g ba bc p x2) (hx : w.heap.size + 4 ≤ x2.heap.size) (k1 : W'.cell? ⟨w.heap.size + 1, 0, none⟩ = some v)
    (hO : OwnC (fun b => w.heap.size + 4 < b ∨ (x2.alloc o).heap.size ≤ b) W' (.slice a' (p + 1) c') 1 (p + 1) (bodL g ba bc p ++ [.slice (ba p) (nd g p).bl (bc p)])) (hG : Grew (fun b => w.heap.size + 4 < b) (x2.alloc o) W') (hp : p + 1 ≤ g.nr + g.nb) :
    Keep (fun k => k = w.heap.size + 1 ∨ w.heap.size + 4 < k) x2 (W'.setCell ⟨w.heap.size + 1, 0, none⟩ (.slice a' (p + 1) c')) ∧ BodI w g ba bc (p + 1) (W'.setCell ⟨w.heap.size + 1, 0, none⟩ (.slice a' (p + 1) c')) := by
  have sG := hG.size
  rw [World.size_alloc] at sG
  have old : ∀ b, b < x2.heap.size → ¬ w.heap.size + 4 < b → W'.heap[b]? = x2.heap[b]? := fun b hb hn => (hG.block b (by rw [World.size_alloc]; omega) hn).trans (Below.heap_alloc x2 o b hb)
  constructor
  · exact ⟨hG.os, hG.tape, hG.output, by rw [size_set]; omega, fun k hk hc => (Below.heap_setCell _ _ _ k (fun e => hc (.inl e))).trans (old k hk (fun q => hc (.inr q)))⟩
  · refine ⟨hp, ⟨_, cell_set_same k1, ?_⟩, ?_, ?_, by rw [size_set]; omega⟩
    · rw [bodL_succ]
      have q : OwnC (fun b => w.heap.size + 4 < b) W' (.slice a' (p + 1) c') 1 (p + 1) (bodL g ba bc p ++ [.slice (ba p) (nd g p).bl (bc p)]) := own_wide hO (fun b q => by
        rcases q with q | q
        · exact q
        · rw [World.size_alloc] at q; omega)
      exact q.on (fun b hb => Below.heap_setCell _ _ _ b (fun e => by simp only at e; omega))
    · rw [World.frozen?_setCell, World.frozen?_of_block (a := ⟨w.heap.size + 1, 0, none⟩) (old (w.heap.size + 1) (by omega) (by omega))]
      exact hI.soft
    · exact ⟨hG.os.trans hI.bel.os, hG.tape.trans hI.bel.tape, hG.output.trans hI.bel.output, by rw [size_set]; have := hI.bel.size; omega, fun b hb => (Below.heap_setCell _ _ _ b (fun e => by simp only at e; omega)).trans ((old b (by have := hI.bel.size; omega) (by omega)).trans (hI.bel.block b hb))⟩

def bodX (cd : Code) (p : Nat) (x : World) : Prop := False

/-- What bodiesOf answers. -/
structure BodsIs (Q : Nat → Prop) (g : Gr) (w : World) (e : Ending) (w' : World) : Prop where
  val : ∃ b cap, e = .returned (.slice (some ⟨b, 0, none⟩) (g.nr + g.nb) cap) ∧ BodsA Q w' b g (g.nr + g.nb)
  bel : Below w.heap.size w w'

set_option maxRecDepth 100000 in
set_option maxHeartbeats 4000000 in
theorem bodiesOf_in (Q : Nat → Prop) (ra la : Option Addr) (rc lc : Nat) (g : Gr) (rb ro lb lo : Nat) (na ba : Nat → Option Addr) (nc bc : Nat → Nat) (w : World)
    (h0 : 0 < g.nr) (h1 : g.nr ≤ 100) (h2 : g.nb ≤ 100) (hF : ∀ W, Below w.heap.size w W → Flat W ra la g rb ro lb lo na ba nc bc) (hO : ∀ p, p < g.nr + g.nb → OpsA Q w (ba p) (nd g p).bl (nd g p).body) :
    CallsIn Fence.wide 0 Try.prog 61 #[.agg #[.slice ra g.nr rc, .slice la g.nb lc]] w (BodsIs Q g w) := by
  have hdep : Fence.wide.depth = none := rfl
  have HF : Hid (∀ W, Below w.heap.size w W → Flat W ra la g rb ro lb lo na ba nc bc) := hF
  have HO : Hid (∀ p, p < g.nr + g.nb → OpsA Q w (ba p) (nd g p).bl (nd g p).body) := hO
  have hlr : 0 < g.nr → rb < w.heap.size := fun h => lt_of_cell ((hF w (Below.refl _ _)).r0 0 h)
  have hll : 0 < g.nb → lb < w.heap.size := fun h => lt_of_cell ((hF w (Below.refl _ _)).l0 0 h)
  clear hF hO
  refine callsIn_of_wp_marks Try.func61 rfl trivial ?_ rfl
  simp only [Try.ntmps61, List.size_toArray, List.length_cons, List.length_nil, Nat.reduceAdd, Nat.reduceSub, Array.replicate_succ, Array.replicate_zero, List.push_toArray, List.append_toArray, List.nil_append, List.cons_append]
  gi_wp2_with (refine ⟨trivial, ?_⟩; gi_at_call 82; refine (nodes_in _ _ _ _ _ _ _).mono ?_; rintro e w' ⟨rfl, rfl⟩)
  obtain ⟨Wl, hWl⟩ : ∃ Wl, ((w.alloc (Obj.cells #[Value.slice ra g.nr rc, Value.slice la g.nb lc] 36)).alloc (Obj.cells #[Value.slice none 0 0] 81)).alloc (Obj.cells #[Value.slice ra g.nr rc, Value.slice la g.nb lc] 36) = Wl := ⟨_, rfl⟩
  have sWl : Wl.heap.size = w.heap.size + 3 := by rw [← hWl]; simp
  have bWl : Below w.heap.size w Wl := by rw [← hWl]; exact bel3 w _ _ _
  have hr := cellNew (w.alloc (Obj.cells #[Value.slice ra g.nr rc, Value.slice la g.nb lc] 36)) (.slice none 0 0) 81
  have hrf := frozenNew (w.alloc (Obj.cells #[Value.slice ra g.nr rc, Value.slice la g.nb lc] 36)) (.slice none 0 0) 81
  have hx := cells2New ((w.alloc (Obj.cells #[Value.slice ra g.nr rc, Value.slice la g.nb lc] 36)).alloc (Obj.cells #[Value.slice none 0 0] 81)) (.slice ra g.nr rc) (.slice la g.nb lc) 36
  simp only [World.size_alloc] at hr hrf hx
  rw [hWl] at hx
  have oWl : BodI w g ba bc 0 Wl := ⟨Nat.zero_le _, ⟨_, by rw [← hWl]; exact cellOn _ hr, .inl ⟨rfl, rfl, rfl⟩⟩, by rw [← hWl]; exact frozenOn _ hr hrf, bWl, by omega⟩
  rw [hWl]
  clear hWl hr hrf
  refine range_law2 (gf := 120) (lb := #[.pointer (some ⟨w.heap.size + 1 + 1, 0, none⟩)]) rfl (enters_of Try.func120 (by kernel_rfl) rfl)
    (nodes_gives2 (w.heap.size + 1 + 1) ra la rc lc g rb ro lb lo na ba nc bc Wl (by omega) (by omega) hx.1 hx.2 (HF.out Wl bWl)) (fun _ => rfl) ?hD (fun k => k = w.heap.size + 1 ∨ w.heap.size + 4 < k) ?hCD ?hC0 ?hC1
    (BodI w g ba bc) bodX ?hI ?hIx oWl ?round ?done ?stop
  case hD =>
    rintro k (rfl | ⟨rfl, hm0⟩ | ⟨rfl, hm0⟩)
    · omega
    · have := hlr hm0; omega
    · have := hll hm0; omega
  case hCD =>
    rintro k (rfl | ⟨rfl, hm0⟩ | ⟨rfl, hm0⟩) hc
    · omega
    · have := hlr hm0; omega
    · have := hll hm0; omega
  case hC0 => rw [sWl]; omega
  case hC1 => rw [sWl]; omega
  case hI =>
    rintro s A E hI hk
    rw [sWl] at hk
    exact hI.keep hk
  case hIx => rintro cd s A E hx; exact hx.elim
  case round =>
    intro l' p x hl1 hl2 hIs hlt
    unfold ndEnc
    gi_wp2
    refine ⟨Keep.refl _ _, hIs, ?_⟩
    clear hIs
    rintro x2 hk2 hs2 hI2
    have hx4' : w.heap.size + 4 ≤ x2.heap.size := by rw [hs2]; have := sWl; omega
    obtain ⟨v, k1, hown⟩ := hI2.val
    obtain ⟨av, cv, rfl⟩ := own_shape hown
    have k2 := hI2.soft
    have HI : Hid (BodI w g ba bc p x2) := hI2
    have HOWN : Hid (OwnC (fun b => w.heap.size + 4 < b) x2 (.slice av p cv) 1 p (bodL g ba bc p)) := hown
    clear hown hI2
    have lx : w.heap.size + 1 < x2.heap.size := lt_of_cell k1
    have hx4 : Hid (w.heap.size + 4 ≤ x2.heap.size) := hx4'
    have HX1 : Hid (w.heap.size + 1 < (x2.alloc (.cells #[.slice (ba p) (nd g p).bl (bc p)] 58)).heap.size) := by show _ < _; rw [World.size_alloc]; omega
    clear hs2 hk2 hx4'
    gi_wp2_with (gi_at_builtin; refine appCI rfl _ _ 81 81 rfl rfl rfl elem81 (Q := fun b => w.heap.size + 4 < b) (own_late HOWN.out (by omega) (bel1 x2 (.cells #[.slice (ba p) (nd g p).bl (bc p)] 58))) (src_slice (u := .slice (ba p) (nd g p).bl (bc p)) (cN x2.heap.size rfl rfl) rfl) (by omega) (fun _ => Nat.one_pos) ?_; intro v' W' hown' hgrew hsz; obtain ⟨a', c', rfl⟩ := own_shape hown'; have blk := (hgrew.block (w.heap.size + 1) HX1.out (fun q => by omega)).trans (Below.heap_alloc x2 (.cells #[.slice (ba p) (nd g p).bl (bc p)] 58) _ lx); have k1' : W'.cell? ⟨w.heap.size + 1, 0, none⟩ = some (.slice av p cv) := (World.cell?_of_block (a := ⟨w.heap.size + 1, 0, none⟩) blk).trans k1; have k2' : W'.frozen? ⟨w.heap.size + 1, 0, none⟩ = false := (World.frozen?_of_block (a := ⟨w.heap.size + 1, 0, none⟩) blk).trans k2; have HO' : Hid (OwnC (fun b => w.heap.size + 4 < b ∨ (x2.alloc (.cells #[.slice (ba p) (nd g p).bl (bc p)] 58)).heap.size ≤ b) W' (.slice a' (p + 1) c') 1 (p + 1) (bodL g ba bc p ++ [.slice (ba p) (nd g p).bl (bc p)])) := hown'; have HG : Hid (Grew (fun b => w.heap.size + 4 < b) (x2.alloc (.cells #[.slice (ba p) (nd g p).bl (bc p)] 58)) W') := hgrew; clear hown' hgrew hsz blk)
    exact bod_step HI.out hx4.out k1' HO'.out HG.out (by omega)
  case done =>
    rintro d p x hd hnm hI2 hK
    obtain ⟨v, k1, hown⟩ := hI2.val
    have hle := hI2.le
    obtain rfl : p = g.nr + g.nb := by omega
    rcases hown with ⟨_, q, _⟩ | ⟨b, cap, rfl, hq, h3, h4, h5, h6⟩
    · omega
    have hbel := hI2.bel
    have hsz := hI2.size
    have hbx : b < x.heap.size := by
      obtain ⟨u, hu⟩ := Option.isSome_iff_exists.1 (h6 0 (by omega)).1
      exact lt_of_cell hu
    have H5 : Hid (∀ j, j < (bodL g ba bc (g.nr + g.nb)).length → x.cell? ⟨b, j, none⟩ = (bodL g ba bc (g.nr + g.nb))[j]?) := h5
    clear h5 h6
    gi_wp2
    refine ⟨by simp, .inl ⟨_, _, rfl, run_takeDeferred hK, ?_⟩⟩
    have hbd : b ≠ d := by
      rintro rfl
      have h := H5.out 0 (by rw [h3]; omega)
      have h' : x.cell? ⟨b, 0, none⟩ = none := by simp [World.cell?, hK]
      rw [h'] at h
      have hl : 0 < (bodL g ba bc (g.nr + g.nb)).length := by rw [h3]; omega
      rw [List.getElem?_eq_getElem hl] at h
      cases h
    have hbp := belowPut (B := w.heap.size) x (.deferred none) (d := d) (by omega) (by omega)
    refine ⟨.slice (some ⟨b, 0, none⟩) (g.nr + g.nb) cap, ?_, ⟨⟨b, cap, rfl, fun i hi => ⟨ba i, bc i, ?_, ?_⟩⟩, hbel.trans hbp⟩⟩
    · simp [results, Try.f61, go_sem]
    · rw [World.cell?_of_block (a := ⟨b, i, none⟩) (World.putObj_heap_other hbd), H5.out i (by rw [h3]; omega)]
      simp [bodL, hi]
    · exact (HO.out i hi).later (hbel.trans hbp)
  case stop => rintro d cd p x hd hsm hx; exact hx.elim

theorem bodiesOf_any (Q : Nat → Prop) (ra la : Option Addr) (rc lc : Nat) (g : Gr) (w : World) (hG : GramA Q w ra la g) (h0 : 0 < g.nr) (h1 : g.nr ≤ 100) (h2 : g.nb ≤ 100) :
    Calls Try.prog 61 #[.agg #[.slice ra g.nr rc, .slice la g.nb lc]] w (BodsIs Q g w) := by
  obtain ⟨rb, ro, lb, lo, na, ba, nc, bc, hF, hO⟩ := flat_of hG
  exact callsIn_wide.1 (bodiesOf_in Q ra la rc lc g rb ro lb lo na ba nc bc w h0 h1 h2 (fun W hW => hF.later hW) hO)

end Go.Proofs.Ytjpcojabdjldbaa
