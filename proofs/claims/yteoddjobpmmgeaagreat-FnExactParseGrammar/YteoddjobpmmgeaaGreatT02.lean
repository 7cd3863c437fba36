import Derived.RangeFuncNested
import Derived.RangeFuncBound
import Derived.RangeFuncCalls
import Derived.RangeFuncLeaves
import Derived.Test.YteoddjobpmmgeaaGreatT01
import Derived.Laws.MakeOwn
import Derived.Laws.ResultCell
import Derived.Deep.Slices
import Derived.Shelf.RegionOpen
import Derived.Deep.AppendSrc
import Derived.OwnWalk
set_option linter.unusedVariables false
set_option linter.unusedSimpArgs false
namespace Go.Proofs.YteoddjobpmmgeaaGreat
section
open Go.RowKit
structure Keep (C : Nat → Prop) (W W' : World) : Prop where
  os : W'.os = W.os
  tape : W'.tape = W.tape
  output : W'.output = W.output
  size : W.heap.size ≤ W'.heap.size
  block : ∀ k, k < W.heap.size → ¬ C k → W'.heap[k]? = W.heap[k]?
theorem Keep.refl (C : Nat → Prop) (W : World) : Keep C W W := ⟨rfl, rfl, rfl, Nat.le_refl _, fun _ _ _ => rfl⟩
theorem Keep.trans {C : Nat → Prop} {A B E : World} (h : Keep C A B) (k : Keep C B E) : Keep C A E :=
  ⟨k.os.trans h.os, k.tape.trans h.tape, k.output.trans h.output, Nat.le_trans h.size k.size, fun i hi hc => (k.block i (Nat.lt_of_lt_of_le hi h.size) hc).trans (h.block i hi hc)⟩
theorem Keep.mono {C C' : Nat → Prop} {A B : World} (h : Keep C A B) (hc : ∀ k, C k → C' k) : Keep C' A B :=
  ⟨h.os, h.tape, h.output, h.size, fun i hi hn => h.block i hi (fun q => hn (hc i q))⟩
theorem Keep.alloc (C : Nat → Prop) (W : World) (o : Obj) : Keep C W (W.alloc o) :=
  ⟨rfl, rfl, rfl, by simp, fun k hk _ => Below.heap_alloc W o k hk⟩
theorem Keep.drew (C : Nat → Prop) (W : World) : Keep C W W.drew := ⟨rfl, rfl, rfl, Nat.le_refl _, fun _ _ _ => rfl⟩
theorem Keep.setCell {C : Nat → Prop} (W : World) (a : Addr) (v : Value) (h : C a.block) : Keep C W (W.setCell a v) :=
  ⟨rfl, rfl, rfl, by simp [World.setCell], fun k _ hn => Below.heap_setCell _ _ _ _ (fun e => hn (e ▸ h))⟩
theorem Keep.putObj {C : Nat → Prop} (W : World) (r : Nat) (o : Obj) (h : C r) : Keep C W (W.putObj r o) :=
  ⟨rfl, rfl, rfl, by simp, fun k _ hn => World.putObj_heap_other (fun e => hn (e ▸ h))⟩
theorem Keep.of_below {C : Nat → Prop} {B : Nat} {W W' : World} (h : Below B W W') (hc : ∀ k, k < W.heap.size → ¬ C k → k < B) : Keep C W W' :=
  ⟨h.os, h.tape, h.output, h.size, fun k hk hn => h.block k (hc k hk hn)⟩
theorem Keep.below {C : Nat → Prop} {B : Nat} {W W' : World} (h : Keep C W W') (hB : B ≤ W.heap.size) (hc : ∀ k, k < B → ¬ C k) : Below B W W' :=
  ⟨h.os, h.tape, h.output, h.size, fun k hk => h.block k (by omega) (hc k hk)⟩
theorem Keep.cell {C : Nat → Prop} {W W' : World} (h : Keep C W W') {p : Addr} (hp : p.block < W.heap.size) (hc : ¬ C p.block) : W'.cell? p = W.cell? p :=
  World.cell?_of_block (h.block p.block hp hc)
theorem Keep.frozen {C : Nat → Prop} {W W' : World} (h : Keep C W W') {p : Addr} (hp : p.block < W.heap.size) (hc : ¬ C p.block) : W'.frozen? p = W.frozen? p :=
  World.frozen?_of_block (h.block p.block hp hc)
theorem cellNew (W : World) (v : Value) (t : TypeId) : (W.alloc (.cells #[v] t)).cell? ⟨W.heap.size, 0, none⟩ = some v := by
  have h := World.alloc_heap_new W (.cells #[v] t)
  simp only [World.cell?, h]
  rfl
theorem frozenNew (W : World) (v : Value) (t : TypeId) : (W.alloc (.cells #[v] t)).frozen? ⟨W.heap.size, 0, none⟩ = false := by
  have h := World.alloc_heap_new W (.cells #[v] t)
  simp only [World.frozen?, h]
  rfl
theorem cellOn {W : World} {a : Addr} {v : Value} (o : Obj) (h : W.cell? a = some v) : (W.alloc o).cell? a = some v := cell_kept h (World.grownBy_alloc W o none) (fun r e => by cases e)
theorem frozenOn {W : World} {a : Addr} {v : Value} (o : Obj) (h : W.cell? a = some v) (hf : W.frozen? a = false) : (W.alloc o).frozen? a = false := (frozen_kept h (World.grownBy_alloc W o none) (fun r e => by cases e)).trans hf
theorem belowPut {B d : Nat} (W : World) (o : Obj) (h : B ≤ d) (hs : B ≤ W.heap.size) : Below B W (W.putObj d o) :=
  (Below.refl _ W).grown (grownBy_putObj' W d o) hs (fun k e => by cases e; exact h)
def Ab {σ : Type} (B : Nat) (J : σ → World → Prop) : Prop := ∀ s A E, J s A → Below B A E → J s E
theorem Ab.mono {σ : Type} {B B' : Nat} {J : σ → World → Prop} (h : Ab B J) (hB : B ≤ B') : Ab B' J := fun s A E hs hb => h s A E hs (hb.mono hB)
def Gives {σ : Type} (P : Program) (g : Nat) (lb : Array Value) (s0 : σ) (more : σ → Prop) (next : σ → σ) (enc : σ → Array Value) (D : Nat → Prop) (w : World) : Prop :=
  ∀ (l : Nat) (C : Nat → Prop) (J Jx : σ → World → Prop) (W : World), w.heap.size ≤ W.heap.size → (∀ k, D k → W.heap[k]? = w.heap[k]?) → (∀ k, D k → ¬ C k) → (∀ k, W.heap.size ≤ k → ¬ C k) →
    Ab W.heap.size J → Ab W.heap.size Jx →
    (∀ s W1, J s W1 → more s → YieldAt Fence.wide 0 P l (enc s) W1 fun e W' =>
      (e = .returned (.bool true) ∧ J (next s) W' ∧ Keep C W1 W') ∨ (e = .returned (.bool false) ∧ Jx s W' ∧ Keep C W1 W')) →
    J s0 W →
    CallsIn Fence.wide 0 P g (#[.func (.yield l) #[] #[]] ++ lb) W fun e W' => (∃ v, e = .returned v) ∧ ((∃ s, ¬ more s ∧ J s W') ∨ (∃ s, more s ∧ Jx s W'))
def roundEnds {σ : Type} (C : Nat → Prop) (I : σ → World → Prop) (Ix : Code → σ → World → Prop) (s s' : σ) (W : World) : Exit → Act → World → Prop
  | .normal, _, W' => Keep C W W' ∧ I s' W'
  | .ret, _, W' => Keep C W W' ∧ Ix .ret s W'
  | .exit id, _, W' => Keep C W W' ∧ Ix (.exit id) s W'
  | .goto t, _, W' => Keep C W W' ∧ Ix (.goto t) s W'
  | .panic _, _, _ => False
  | .outgrown, _, _ => False
theorem range_law {P : Program} {σ : Type} {g : Operand} {ps : Array Tmp} {assign body : Code} {Q : Exit → Act → World → Prop} {a : Act} {w : World}
    {gf : Nat} {lb : Array Value} (hg : a.eval g = .func (.func gf) #[] lb) (eg : ∀ args w, (callFunc gf args).run P w = .ok (.enter gf args) w)
    {s0 : σ} {more : σ → Prop} {next : σ → σ} {enc : σ → Array Value} {D : Nat → Prop} (hseq : Gives P gf lb s0 more next enc D w) (hps : ∀ s, (enc s).size = ps.size)
    (hD : ∀ k, D k → k < w.heap.size)
    (C : Nat → Prop) (hCD : ∀ k, D k → ¬ C k) (hCw : ∀ k, w.heap.size ≤ k → ¬ C k)
    (I : σ → World → Prop) (Ix : Code → σ → World → Prop) (hI : Ab w.heap.size I) (hIx : ∀ c, Ab w.heap.size (Ix c)) (h0 : I s0 w)
    (hround : ∀ (l : Nat) (s : σ) (W : World), w.heap.size ≤ l → l < W.heap.size → I s W → more s →
      assign.wpIn (Fence.wide.inRound l) 0 P (Exit.then (fun a₁ W₁ => Keep C W W₁ ∧ I s W₁ ∧ ∀ W₂, Keep (fun k => k = l) W₁ W₂ → W₂.heap.size = W₁.heap.size → I s W₂ →
          body.wpIn (Fence.wide.inRound l) 0 P (roundEnds C I Ix s (next s) W₂) a₁ W₂) (fun _ _ _ => False))
        { tmps := (ps.zip (enc s)).foldl (fun t (p, v) => t.setIfInBounds p v) a.tmps, defers := [] } W)
    (hdone : ∀ (d : Nat) (s : σ) (W : World), w.heap.size ≤ d → ¬ more s → I s W → W.heap[d]? = some (.deferred (some [])) → Q .normal { a with defers := { target := .collected d, args := #[] } :: a.defers } W)
    (hstop : ∀ (d : Nat) (c : Code) (s : σ) (W : World), w.heap.size ≤ d → more s → Ix c s W → W.heap[d]? = some (.deferred (some [])) → c.wpIn Fence.wide 0 P Q { a with defers := { target := .collected d, args := #[] } :: a.defers } W) :
    (Code.rangeFunc g ps assign body).wpIn Fence.wide 0 P Q a w := by
  refine wpIn_rangeFunc ?_
  intro fn hfn
  obtain ⟨rec, hrec⟩ : ∃ rec : LoopState → Option Code → Loop, rec = fun st pe => { state := st, pending := pe, fn, tmps := a.tmps, params := ps, assign, body, defers := w.heap.size } := ⟨_, rfl⟩
  obtain ⟨W1, hW1⟩ : ∃ W1, (w.alloc (.deferred (some []))).alloc (.loop (rec .ready none)) = W1 := ⟨_, rfl⟩
  have hs1 : W1.heap.size = w.heap.size + 2 := by rw [← hW1]; simp
  have hL1 : W1.heap[w.heap.size + 1]? = some (.loop (rec .ready none)) := by
    rw [← hW1]; have := World.alloc_heap_new (w.alloc (.deferred (some []))) (.loop (rec .ready none)); rwa [World.size_alloc] at this
  have hK1 : W1.heap[w.heap.size]? = some (.deferred (some [])) := by
    rw [← hW1]; exact (Below.heap_alloc _ _ _ (by simp)).trans (World.alloc_heap_new w _)
  have hb1 : Below w.heap.size w W1 := by
    rw [← hW1]; exact ((Below.refl _ w).alloc (Nat.le_refl _) _).alloc (by simp) _
  have hput : ∀ (W : World) (o : Obj), w.heap.size + 1 < W.heap.size → Below w.heap.size W (W.putObj (w.heap.size + 1) o) := fun W o hlt =>
    (Below.refl _ W).grown (grownBy_putObj' W _ o) (by omega) (fun k e => by cases e; omega)
  refine ⟨w.heap.size + 1, [{ target := .collected w.heap.size, args := #[] }], W1, { target := .fn (.func gf) lb, args := #[.func (.yield (w.heap.size + 1)) #[] #[]] }, W1, gf,
    #[.func (.yield (w.heap.size + 1)) #[] #[]] ++ lb, W1, ?_, ?_, ?_, ?_, ?_, ?_⟩
  · rw [← hW1, hrec]; exact run_enterLoop_outer _ _ _ _ _
  · simp only [resolve, hg]
    simp [go_sem]
  · intro f' _; trivial
  · simp [invoke, go_sem, eg]
  · intro h; simp [Fence.wide] at h
  · refine (hseq (w.heap.size + 1) (fun k => C k ∨ k = w.heap.size + 1)
      (fun s W => I s W ∧ W.heap[w.heap.size + 1]? = some (.loop (rec .ready none)) ∧ W.heap[w.heap.size]? = some (.deferred (some [])))
      (fun s W => ∃ c, Ix c s W ∧ W.heap[w.heap.size + 1]? = some (.loop (rec .done (some c))) ∧ W.heap[w.heap.size]? = some (.deferred (some [])))
      W1 (by omega) (fun k hk => hb1.block k (hD k hk)) (fun k hk hc => hc.elim (hCD k hk) (fun e => by have := hD k hk; omega)) (fun k hk hc => hc.elim (hCw k (by omega)) (fun e => by omega))
      (fun s A E hs hb => ⟨hI s A E hs.1 (hb.mono (by omega)), (hb.block _ (by omega)).trans hs.2.1, (hb.block _ (by omega)).trans hs.2.2⟩)
      (fun s A E hs hb => by
        obtain ⟨c, hc, hl, hk⟩ := hs
        exact ⟨c, hIx c s A E hc (hb.mono (by omega)), (hb.block _ (by omega)).trans hl, (hb.block _ (by omega)).trans hk⟩)
      ?_ ⟨hI s0 w W1 h0 hb1, hL1, hK1⟩).mono ?_
    · -- one round
      rintro s W ⟨hi, hl, hk⟩ hm
      have hlt : w.heap.size + 1 < W.heap.size := (Array.getElem?_eq_some_iff.1 hl).1
      have hy := run_yield (P := P) (args := enc s) hl (by rw [hrec]; exact hps s)
      rw [hrec] at hy
      refine ⟨fn, _, assign, body, hy, roundIn_of_wpIn hfn (wpIn_mono (hround _ s W (by omega) hlt hi hm) ?_)⟩
      intro e a₁ Wa hp
      cases e with
      | normal =>
        obtain ⟨hka, hia, hb⟩ := hp
        have hla : Wa.heap[w.heap.size + 1]? = some (.loop (rec .ready none)) := (hka.block _ hlt (hCw _ (by omega))).trans hl
        have hda : Wa.heap[w.heap.size]? = some (.deferred (some [])) := (hka.block _ (by omega) (hCw _ (by omega))).trans hk
        have hlta : w.heap.size + 1 < Wa.heap.size := Nat.lt_of_lt_of_le hlt hka.size
        refine ⟨_, run_beginRound hla (by rw [hrec]), ?_⟩
        have hib := hI s Wa _ hia (hput Wa (.loop { rec .ready none with state := .busy }) hlta)
        have hlb : (Wa.putObj (w.heap.size + 1) (.loop { rec .ready none with state := .busy })).heap[w.heap.size + 1]? = some (.loop { rec .ready none with state := .busy }) := World.putObj_heap_same hlta
        have hdb : (Wa.putObj (w.heap.size + 1) (.loop { rec .ready none with state := .busy })).heap[w.heap.size]? = some (.deferred (some [])) := (World.putObj_heap_other (by omega)).trans hda
        refine wpIn_mono (hb _ (Keep.putObj _ _ _ rfl) (by simp) hib) ?_
        have fin : ∀ (jump : Option Code) (W3 : World), Keep C (Wa.putObj (w.heap.size + 1) (.loop { rec .ready none with state := .busy })) W3 →
            (Instr.endRound (w.heap.size + 1) jump).run P W3 = .ok (.bool jump.isNone) (W3.putObj (w.heap.size + 1) (.loop (rec (if jump.isNone then .ready else .done) jump))) ∧
            w.heap.size + 1 < W3.heap.size ∧
            (W3.putObj (w.heap.size + 1) (.loop (rec (if jump.isNone then .ready else .done) jump))).heap[w.heap.size + 1]? = some (.loop (rec (if jump.isNone then .ready else .done) jump)) ∧
            (W3.putObj (w.heap.size + 1) (.loop (rec (if jump.isNone then .ready else .done) jump))).heap[w.heap.size]? = some (.deferred (some [])) := fun jump W3 hk3 => by
          have hl3 := (hk3.block _ (by simpa using hlta) (hCw _ (by omega))).trans hlb
          have hd3 := (hk3.block w.heap.size (by simp; omega) (hCw _ (by omega))).trans hdb
          have := run_endRound (P := P) jump hl3
          rw [hrec] at this ⊢
          exact ⟨this, (Array.getElem?_eq_some_iff.1 hl3).1, World.putObj_heap_same (Array.getElem?_eq_some_iff.1 hl3).1, (World.putObj_heap_other (by omega)).trans hd3⟩
        have hkeep : ∀ (W3 : World) (o : Obj), Keep C (Wa.putObj (w.heap.size + 1) (.loop { rec .ready none with state := .busy })) W3 → Keep (fun k => C k ∨ k = w.heap.size + 1) W (W3.putObj (w.heap.size + 1) o) := fun W3 o hk3 =>
          ((hka.mono fun _ => .inl).trans (Keep.putObj _ _ _ (.inr rfl))).trans ((hk3.mono fun _ => .inl).trans (Keep.putObj _ _ _ (.inr rfl)))
        rintro e a3 W3 hp
        cases e with
        | normal =>
          obtain ⟨hk3, hi3⟩ := hp
          obtain ⟨hr, hl3, hl4, hd4⟩ := fin none W3 hk3
          exact ⟨_, _, hr, .inl ⟨rfl, ⟨hI _ _ _ hi3 (hput W3 _ hl3), hl4, hd4⟩, hkeep W3 _ hk3⟩⟩
        | ret =>
          obtain ⟨hk3, hi3⟩ := hp
          obtain ⟨hr, hl3, hl4, hd4⟩ := fin (some .ret) W3 hk3
          exact ⟨_, _, hr, .inr ⟨rfl, ⟨.ret, hIx _ _ _ _ hi3 (hput W3 _ hl3), hl4, hd4⟩, hkeep W3 _ hk3⟩⟩
        | exit id =>
          obtain ⟨hk3, hi3⟩ := hp
          obtain ⟨hr, hl3, hl4, hd4⟩ := fin (some (.exit id)) W3 hk3
          exact ⟨_, _, hr, .inr ⟨rfl, ⟨.exit id, hIx _ _ _ _ hi3 (hput W3 _ hl3), hl4, hd4⟩, hkeep W3 _ hk3⟩⟩
        | goto t =>
          obtain ⟨hk3, hi3⟩ := hp
          obtain ⟨hr, hl3, hl4, hd4⟩ := fin (some (.goto t)) W3 hk3
          exact ⟨_, _, hr, .inr ⟨rfl, ⟨.goto t, hIx _ _ _ _ hi3 (hput W3 _ hl3), hl4, hd4⟩, hkeep W3 _ hk3⟩⟩
        | panic ch => exact hp.elim
        | outgrown => exact hp.elim
      | ret => exact hp.elim
      | exit id => exact hp.elim
      | goto t => exact hp.elim
      | panic ch => exact hp.elim
      | outgrown => exact hp.elim
    · -- behind the iterator
      rintro e W2 ⟨⟨v, rfl⟩, (⟨s, hm, hi, hl, hk⟩ | ⟨s, hm, c, hi, hl, hk⟩)⟩
      · exact ⟨none, _, by have := run_endLoop (P := P) hl (by rw [hrec]; simp); rw [hrec] at this; exact this,
          hdone _ s _ (Nat.le_refl _) hm (hI _ _ _ hi (hput W2 _ (Array.getElem?_eq_some_iff.1 hl).1)) ((World.putObj_heap_other (by omega)).trans hk)⟩
      · exact ⟨some c, _, by have := run_endLoop (P := P) hl (by rw [hrec]; simp); rw [hrec] at this; exact this,
          hstop _ c s _ (Nat.le_refl _) hm (hIx c _ _ _ hi (hput W2 _ (Array.getElem?_eq_some_iff.1 hl).1)) ((World.putObj_heap_other (by omega)).trans hk)⟩
end
section
open Go.RowKit
open M (OpD NodeD Gr)
def New (w w' : World) : Nat → Prop := fun b => w.heap.size ≤ b ∧ b < w'.heap.size
def Soft (w w' : World) : Prop := ∀ b o, w.heap.size ≤ b → b < w'.heap.size → w'.frozen? ⟨b, o, none⟩ = false
theorem Soft.trans {a b c : World} (h : Soft a b) (k : Soft b c) (hb : Below b.heap.size b c) : Soft a c := fun x o h1 h2 => by
  by_cases e : x < b.heap.size
  · rw [hb.frozen (p := ⟨x, o, none⟩) e]; exact h x o h1 e
  · exact k x o (by omega) h2
theorem Soft.refl (w : World) : Soft w w := fun b o h1 h2 => by omega
theorem soft1 (w : World) (c : Array Value) (t : TypeId) : Soft w (w.alloc (.cells c t)) := fun b o h1 h2 => by
  simp at h2
  obtain rfl : b = w.heap.size := by omega
  have h := World.alloc_heap_new w (.cells c t)
  simp only [World.frozen?, h]
  simp
theorem cN {W : World} {c : Array Value} {t : TypeId} {j : Nat} {v : Value} (y : Nat) (hy : W.heap.size = y) (h : c[j]? = some v) : (W.alloc (.cells c t)).cell? ⟨y, j, none⟩ = some v := by
  subst hy
  have e := World.alloc_heap_new W (.cells c t)
  simp only [World.cell?, e]
  exact h
theorem Soft.set {w W : World} (h : Soft w W) (a : Addr) (v : Value) : Soft w (W.setCell a v) := fun b o h1 h2 => by
  rw [World.frozen?_setCell]
  exact h b o h1 (by simpa [World.setCell] using h2)
theorem stay_set {Q : Nat → Prop} (W : World) (a : Addr) (v : Value) (h : ¬ Q a.block) : Stay Q W (W.setCell a v) := fun b hb => Below.heap_setCell W a v b (fun e => h (e ▸ hb))
theorem size_set (W : World) (a : Addr) (v : Value) : (W.setCell a v).heap.size = W.heap.size := by simp [World.setCell]
theorem info5 : (Tryz.prog.info? 5).map (fun i => (i.zero, i.size, i.bytes)) = some (some (.int .u8 0), 1, 1) := by kernel_rfl
theorem info3' : (Tryz.prog.info? 3).map (fun i => (i.zero, i.size, i.bytes)) = some (some (.int .i64 0), 1, 8) := by kernel_rfl
theorem info78 : (Tryz.prog.info? 78).map (fun i => (i.zero, i.size, i.bytes)) = some (some (.agg #[.int .i64 0, .slice none 0 0, .int .i64 0]), 3, 40) := by kernel_rfl
def Row (w : World) (b : Nat) (t : TypeId) (n : Nat) : Prop := ∃ f, w.rowIs b t n f
theorem Row.of_block {w w' : World} {b : Nat} {t : TypeId} {n : Nat} (h : Row w b t n) (e : w'.heap[b]? = w.heap[b]?) : Row w' b t n := h.imp fun _ h => h.of_block e
theorem Row.set {w : World} {b : Nat} {t : TypeId} {n : Nat} (h : Row w b t n) (i : Nat) (v : Value) : Row (w.setCell ⟨b, i, none⟩ v) b t n := let ⟨_, h⟩ := h; ⟨_, h.set i v⟩
theorem Row.cell {w : World} {b : Nat} {t : TypeId} {n : Nat} (h : Row w b t n) {i : Nat} (hi : i < n) : ∃ v, w.cell? ⟨b, i, none⟩ = some v := let ⟨_, h⟩ := h; ⟨_, h.cell hi⟩
theorem Row.frozen {w : World} {b : Nat} {t : TypeId} {n : Nat} (h : Row w b t n) (i : Nat) : w.frozen? ⟨b, i, none⟩ = false := let ⟨_, h⟩ := h; h.frozen i
theorem cell_set_same {w : World} {b i : Nat} {v u : Value} (h : w.cell? ⟨b, i, none⟩ = some u) : (w.setCell ⟨b, i, none⟩ v).cell? ⟨b, i, none⟩ = some v := World.cell?_setCell_same' _ _ _ (by rw [h]; rfl)
theorem cell_set_other {w : World} {b i j : Nat} {v : Value} (h : i ≠ j) : (w.setCell ⟨b, i, none⟩ v).cell? ⟨b, j, none⟩ = w.cell? ⟨b, j, none⟩ := World.cell?_setCell_other w _ _ v (fun e => h (by injection e))
def put3 (w : World) (b o : Nat) (v0 v1 v2 : Value) : World := ((w.setCell ⟨b, o, none⟩ v0).setCell ⟨b, o + 1, none⟩ v1).setCell ⟨b, o + 2, none⟩ v2
theorem put3_other {w : World} {b o j : Nat} {v0 v1 v2 : Value} (h : j < o ∨ o + 2 < j) : (put3 w b o v0 v1 v2).cell? ⟨b, j, none⟩ = w.cell? ⟨b, j, none⟩ := by
  unfold put3
  rw [cell_set_other (by omega), cell_set_other (by omega), cell_set_other (by omega)]
theorem put3_stay {Q : Nat → Prop} {w : World} {b o : Nat} {v0 v1 v2 : Value} (h : ¬ Q b) : Stay Q w (put3 w b o v0 v1 v2) := ((stay_set _ ⟨b, o, none⟩ _ h).trans (stay_set _ ⟨b, o + 1, none⟩ _ h)).trans (stay_set _ ⟨b, o + 2, none⟩ _ h)
theorem OpC.put {Q : Nat → Prop} {w : World} {b o o' : Nat} {d : OpD} {v0 v1 v2 : Value} (h : OpC Q w b o d) (hq : ¬ Q b) (ho : o + 2 < o' ∨ o' + 2 < o) : OpC Q (put3 w b o' v0 v1 v2) b o d := by
  obtain ⟨h1, ⟨a, c, h2, h3⟩, h4⟩ := h
  exact ⟨(put3_other (by omega)).trans h1, ⟨a, c, (put3_other (by omega)).trans h2, h3.on (put3_stay hq)⟩, (put3_other (by omega)).trans h4⟩
end
section
open Go.RowKit
open M (OpD NodeD Gr)
theorem Soft.fz {w W : World} (h : Soft w W) (b o : Nat) (h1 : w.heap.size ≤ b) (h2 : b < W.heap.size) : W.frozen? ⟨b, o, none⟩ = false := h b o h1 h2
end
section
open Go.RowKit
open M (OpD NodeD Gr)
theorem info53 : (Tryz.prog.info? 53).map (fun i => (i.zero, i.size, i.bytes)) = some (some (.agg #[.slice none 0 0, .slice none 0 0]), 2, 48) := by kernel_rfl
theorem info50 : (Tryz.prog.info? 50).map (fun i => (i.zero, i.size, i.bytes)) = some (some (.agg #[.slice none 0 0, .bool false, .slice none 0 0]), 3, 56) := by kernel_rfl
theorem make50 (n : Nat) (hn : n ≤ 1048576) (w : World) : (Instr.makeSlice 24 (.int .i64 (n : Int)) (.int .i64 (n : Int))).run Tryz.prog w = .ok (.slice (some ⟨w.heap.size, 0, none⟩) n n) (w.alloc (.cells (madeCells #[.slice none 0 0, .bool false, .slice none 0 0] (n * 3)) 50)) := by
  obtain ⟨i, hi, hzz⟩ := Option.map_eq_some_iff.1 info50
  simp only [Prod.mk.injEq] at hzz
  obtain ⟨hz, hs, hb⟩ := hzz
  have hr := run_make (P := Tryz.prog) w 24 50 i _ Tryz.underlying24 hi hz .i64 .i64 n n (by omega) (Int.le_refl _) (by rw [hb]; omega) (by omega)
  simp only [Int.toNat_natCast, hs] at hr
  exact hr
def put2 (w : World) (b o : Nat) (v0 v1 : Value) : World := (w.setCell ⟨b, o, none⟩ v0).setCell ⟨b, o + 1, none⟩ v1
theorem put2_other {w : World} {b o j : Nat} {v0 v1 : Value} (h : j < o ∨ o + 1 < j) : (put2 w b o v0 v1).cell? ⟨b, j, none⟩ = w.cell? ⟨b, j, none⟩ := by
  unfold put2
  rw [cell_set_other (by omega), cell_set_other (by omega)]
theorem put2_stay {Q : Nat → Prop} {w : World} {b o : Nat} {v0 v1 : Value} (h : ¬ Q b) : Stay Q w (put2 w b o v0 v1) := (stay_set _ ⟨b, o, none⟩ _ h).trans (stay_set _ ⟨b, o + 1, none⟩ _ h)
theorem RuleC.put {Q : Nat → Prop} {w : World} {b o o' : Nat} {d : NodeD} {v0 v1 : Value} (h : RuleC Q w b o d) (hq : ¬ Q b) (ho : o + 1 < o' ∨ o' + 1 < o) : RuleC Q (put2 w b o' v0 v1) b o d := by
  obtain ⟨⟨a, c, h1, h2⟩, ⟨a', c', h3, h4⟩⟩ := h
  exact ⟨⟨a, c, (put2_other (by omega)).trans h1, h2.on (put2_stay hq)⟩, ⟨a', c', (put2_other (by omega)).trans h3, h4.on (put2_stay hq)⟩⟩
theorem LabC.put {Q : Nat → Prop} {w : World} {b o o' : Nat} {d : NodeD} {v0 v1 v2 : Value} (h : LabC Q w b o d) (hq : ¬ Q b) (ho : o + 2 < o' ∨ o' + 2 < o) : LabC Q (put3 w b o' v0 v1 v2) b o d := by
  obtain ⟨⟨a, c, h1, h2⟩, h0, ⟨a', c', h3, h4⟩⟩ := h
  exact ⟨⟨a, c, (put3_other (by omega)).trans h1, h2.on (put3_stay hq)⟩, (put3_other (by omega)).trans h0, ⟨a', c', (put3_other (by omega)).trans h3, h4.on (put3_stay hq)⟩⟩
end
section
open Go.RowKit
open M (OpD NodeD Gr)
def like (u v : Option Value) : Prop := (∃ k m n, u = some (.int k m) ∧ v = some (.int k n)) ∨ (∃ b c, u = some (.bool b) ∧ v = some (.bool c)) ∨ v = u
theorem like.refl (u : Option Value) : like u u := .inr (.inr rfl)
theorem like.trans {u v x : Option Value} (h : like u v) (k : like v x) : like u x := by
  rcases h with ⟨κ, m, n, rfl, rfl⟩ | ⟨b, c, rfl, rfl⟩ | rfl
  · rcases k with ⟨κ', m', n', h, rfl⟩ | ⟨b, c, h, _⟩ | rfl
    · cases h; exact .inl ⟨_, _, _, rfl, rfl⟩
    · cases h
    · exact .inl ⟨_, _, _, rfl, rfl⟩
  · rcases k with ⟨κ', m', n', h, _⟩ | ⟨b, c, h, rfl⟩ | rfl
    · cases h
    · cases h; exact .inr (.inl ⟨_, _, rfl, rfl⟩)
    · exact .inr (.inl ⟨_, _, rfl, rfl⟩)
  · exact k
structure Wrote (Q : Nat → Prop) (w w' : World) : Prop where
  os : w'.os = w.os
  tape : w'.tape = w.tape
  output : w'.output = w.output
  size : w'.heap.size = w.heap.size
  block : ∀ b, ¬ Q b → w'.heap[b]? = w.heap[b]?
  cell : ∀ a, like (w.cell? a) (w'.cell? a)
  frozen : ∀ a, w'.frozen? a = w.frozen? a
theorem Wrote.refl (Q : Nat → Prop) (w : World) : Wrote Q w w := ⟨rfl, rfl, rfl, rfl, fun _ _ => rfl, fun _ => like.refl _, fun _ => rfl⟩
theorem Wrote.trans {Q : Nat → Prop} {a b c : World} (h : Wrote Q a b) (k : Wrote Q b c) : Wrote Q a c :=
  ⟨k.os.trans h.os, k.tape.trans h.tape, k.output.trans h.output, k.size.trans h.size, fun x hx => (k.block x hx).trans (h.block x hx), fun x => (h.cell x).trans (k.cell x), fun x => (k.frozen x).trans (h.frozen x)⟩
def SoftQ (Q : Nat → Prop) (w : World) : Prop := ∀ b o, Q b → w.frozen? ⟨b, o, none⟩ = false
theorem SoftQ.on {Q Q' : Nat → Prop} {w w' : World} (h : SoftQ Q w) (t : Wrote Q' w w') : SoftQ Q w' := fun b o hb => (t.frozen _).trans (h b o hb)
structure SmallM (d : NodeD) : Prop where
  name : d.nl ≤ 1048576
  body : SmallB d.bl d.body
theorem SmallN.m {d : NodeD} (h : SmallN d) : SmallM d := ⟨h.name, h.body⟩
end
section
open Go.RowKit Go.Deep
open M (OpD NodeD Gr InsD EX ins)
theorem nne (n : Nat) : ((n : Int) != n) = false := by simp
theorem ine (n : Int) : (n != n) = false := by simp
def InsC (Q : Nat → Prop) (w : World) (b o : Nat) (d : InsD) : Prop :=
  w.cell? ⟨b, o, none⟩ = some (.int .i64 d.kind) ∧ w.cell? ⟨b, o + 1, none⟩ = some (.int .i64 d.arg) ∧ w.cell? ⟨b, o + 2, none⟩ = some (.int .i64 d.to) ∧
    ∃ sa sc, w.cell? ⟨b, o + 3, none⟩ = some (.slice sa d.sl sc) ∧ Ints Q .i64 w sa d.sl d.set
def InsA (Q : Nat → Prop) (w : World) (a : Option Addr) (n : Nat) (R : Nat → InsD) : Prop :=
  n = 0 ∨ ∃ b off, a = some ⟨b, off, none⟩ ∧ Q b ∧ ∀ i, i < n → InsC Q w b (off + i * 4) (R i)
theorem InsA.on {Q : Nat → Prop} {w w' : World} {a : Option Addr} {n : Nat} {R : Nat → InsD} (h : InsA Q w a n R) (k : Stay Q w w') : InsA Q w' a n R := by
  rcases h with h | ⟨b, off, e, hq, h⟩
  · exact .inl h
  · have hc : ∀ o, w'.cell? ⟨b, o, none⟩ = w.cell? ⟨b, o, none⟩ := fun o => World.cell?_of_block (a := ⟨b, o, none⟩) (k b hq)
    refine .inr ⟨b, off, e, hq, fun i hi => ?_⟩
    obtain ⟨h0, h1, h2, sa, sc, h3, h4⟩ := h i hi
    exact ⟨(hc _).trans h0, (hc _).trans h1, (hc _).trans h2, sa, sc, (hc _).trans h3, h4.on k⟩
theorem InsA.later {Q : Nat → Prop} {w w' : World} {a : Option Addr} {n : Nat} {R : Nat → InsD} (h : InsA Q w a n R) (k : Below w.heap.size w w') : InsA Q w' a n R := by
  rcases h with h | ⟨b, off, e, hq, h⟩
  · exact .inl h
  · refine .inr ⟨b, off, e, hq, fun i hi => ?_⟩
    obtain ⟨h0, h1, h2, sa, sc, h3, h4⟩ := h i hi
    exact ⟨cell_on h0 k, cell_on h1 k, cell_on h2 k, sa, sc, cell_on h3 k, h4.later k⟩
theorem InsA.wide {Q Q' : Nat → Prop} {w : World} {a : Option Addr} {n : Nat} {R : Nat → InsD} (h : InsA Q w a n R) (k : ∀ b, Q b → Q' b) : InsA Q' w a n R := by
  rcases h with h | ⟨b, off, e, hq, h⟩
  · exact .inl h
  · refine .inr ⟨b, off, e, k b hq, fun i hi => ?_⟩
    obtain ⟨h0, h1, h2, sa, sc, h3, h4⟩ := h i hi
    exact ⟨h0, h1, h2, sa, sc, h3, h4.wide k⟩
def put4 (w : World) (b o : Nat) (v0 v1 v2 v3 : Value) : World := (put3 w b o v0 v1 v2).setCell ⟨b, o + 3, none⟩ v3
theorem put4_other {w : World} {b o j : Nat} {v0 v1 v2 v3 : Value} (h : j < o ∨ o + 3 < j) : (put4 w b o v0 v1 v2 v3).cell? ⟨b, j, none⟩ = w.cell? ⟨b, j, none⟩ := by
  unfold put4
  rw [cell_set_other (by omega), put3_other (by omega)]
theorem put4_stay {Q : Nat → Prop} {w : World} {b o : Nat} {v0 v1 v2 v3 : Value} (h : ¬ Q b) : Stay Q w (put4 w b o v0 v1 v2 v3) := (put3_stay h).trans (stay_set _ ⟨b, o + 3, none⟩ _ h)
theorem InsC.put {Q : Nat → Prop} {w : World} {b o o' : Nat} {d : InsD} {v0 v1 v2 v3 : Value} (h : InsC Q w b o d) (hq : ¬ Q b) (ho : o + 3 < o' ∨ o' + 3 < o) : InsC Q (put4 w b o' v0 v1 v2 v3) b o d := by
  obtain ⟨h0, h1, h2, a, c, h3, h4⟩ := h
  exact ⟨(put4_other (by omega)).trans h0, (put4_other (by omega)).trans h1, (put4_other (by omega)).trans h2, a, c, (put4_other (by omega)).trans h3, h4.on (put4_stay hq)⟩
theorem InsC.later {Q : Nat → Prop} {w w' : World} {b o : Nat} {d : InsD} (h : InsC Q w b o d) (k : Below w.heap.size w w') : InsC Q w' b o d := by
  obtain ⟨h0, h1, h2, a, c, h3, h4⟩ := h
  exact ⟨cell_on h0 k, cell_on h1 k, cell_on h2 k, a, c, cell_on h3 k, h4.later k⟩
theorem InsC.wide {Q Q' : Nat → Prop} {w : World} {b o : Nat} {d : InsD} (h : InsC Q w b o d) (k : ∀ b, Q b → Q' b) : InsC Q' w b o d := by
  obtain ⟨h0, h1, h2, a, c, h3, h4⟩ := h
  exact ⟨h0, h1, h2, a, c, h3, h4.wide k⟩
section
variable {H : Type} {enc : TypeId × Value → H} {w : World} {base : Nat} {spare : Nat → Bool} {held : Bool}
instance : Inhabited InsD := ⟨ins 0 0 0⟩
end
def from_ (k : Int) : Nat → Int := fun i => k + i
end
section
open Go.RowKit
open M (OpD NodeD Gr InsD)
structure EvD where
  kind : Int
  arg : Int
  pos : Int
def EvC (w : World) (b o : Nat) (d : EvD) : Prop := w.cell? ⟨b, o, none⟩ = some (.int .i64 d.kind) ∧ w.cell? ⟨b, o + 1, none⟩ = some (.int .i64 d.arg) ∧ w.cell? ⟨b, o + 2, none⟩ = some (.int .i64 d.pos)
def EvA (Q : Nat → Prop) (w : World) (a : Option Addr) (n : Nat) (E : Nat → EvD) : Prop :=
  n = 0 ∨ ∃ b off, a = some ⟨b, off, none⟩ ∧ Q b ∧ ∀ i, i < n → EvC w b (off + i * 3) (E i)
theorem EvA.on {Q : Nat → Prop} {w w' : World} {a : Option Addr} {n : Nat} {R : Nat → EvD} (h : EvA Q w a n R) (k : Stay Q w w') : EvA Q w' a n R := by
  rcases h with h | ⟨b, off, e, hq, h⟩
  · exact .inl h
  · have hc : ∀ o, w'.cell? ⟨b, o, none⟩ = w.cell? ⟨b, o, none⟩ := fun o => World.cell?_of_block (a := ⟨b, o, none⟩) (k b hq)
    exact .inr ⟨b, off, e, hq, fun i hi => ⟨(hc _).trans (h i hi).1, (hc _).trans (h i hi).2.1, (hc _).trans (h i hi).2.2⟩⟩
theorem EvA.later {Q : Nat → Prop} {w w' : World} {a : Option Addr} {n : Nat} {R : Nat → EvD} (h : EvA Q w a n R) (k : Below w.heap.size w w') : EvA Q w' a n R := by
  rcases h with h | ⟨b, off, e, hq, h⟩
  · exact .inl h
  · exact .inr ⟨b, off, e, hq, fun i hi => ⟨cell_on (h i hi).1 k, cell_on (h i hi).2.1 k, cell_on (h i hi).2.2 k⟩⟩
theorem EvA.wide {Q Q' : Nat → Prop} {w : World} {a : Option Addr} {n : Nat} {R : Nat → EvD} (h : EvA Q w a n R) (k : ∀ b, Q b → Q' b) : EvA Q' w a n R := by
  rcases h with h | ⟨b, off, e, hq, h⟩
  · exact .inl h
  · exact .inr ⟨b, off, e, k b hq, h⟩
structure OutD where
  code : Int
  pos : Int
  label : Int
  far : Int
  en : Nat
  ex : Nat → Int
  steps : Int
  throws : Int
  vn : Nat
  ev : Nat → EvD
structure OutA (Q : Nat → Prop) (w : World) (o : OutD) (ea va : Option Addr) : Prop where
  ex : Ints Q .i64 w ea o.en o.ex
  ev : EvA Q w va o.vn o.ev
theorem OutA.on {Q : Nat → Prop} {w w' : World} {o : OutD} {ea va : Option Addr} (h : OutA Q w o ea va) (k : Stay Q w w') : OutA Q w' o ea va := ⟨h.ex.on k, h.ev.on k⟩
theorem OutA.later {Q : Nat → Prop} {w w' : World} {o : OutD} {ea va : Option Addr} (h : OutA Q w o ea va) (k : Below w.heap.size w w') : OutA Q w' o ea va := ⟨h.ex.later k, h.ev.later k⟩
def EvW (Q : Nat → Prop) (w : World) (a : Option Addr) (n : Nat) (E : Nat → EvD) : Prop :=
  n = 0 ∨ ∃ b, a = some ⟨b, 0, none⟩ ∧ Q b ∧ (∀ j, j < n * 3 → w.frozen? ⟨b, j, none⟩ = false) ∧ ∀ i, i < n → EvC w b (i * 3) (E i)
theorem EvW.on {Q : Nat → Prop} {w w' : World} {a : Option Addr} {n : Nat} {R : Nat → EvD} (h : EvW Q w a n R) (k : Stay Q w w') : EvW Q w' a n R := by
  rcases h with h | ⟨b, e, hq, hf, h⟩
  · exact .inl h
  · have hc : ∀ o, w'.cell? ⟨b, o, none⟩ = w.cell? ⟨b, o, none⟩ := fun o => World.cell?_of_block (a := ⟨b, o, none⟩) (k b hq)
    exact .inr ⟨b, e, hq, fun j hj => (World.frozen?_of_block (a := ⟨b, j, none⟩) (k b hq)).trans (hf j hj), fun i hi => ⟨(hc _).trans (h i hi).1, (hc _).trans (h i hi).2.1, (hc _).trans (h i hi).2.2⟩⟩
theorem EvW.ev {Q : Nat → Prop} {w : World} {a : Option Addr} {n : Nat} {R : Nat → EvD} (h : EvW Q w a n R) : EvA Q w a n R := by
  rcases h with h | ⟨b, e, hq, hf, h⟩
  · exact .inl h
  · exact .inr ⟨b, 0, e, hq, fun i hi => by rw [Nat.zero_add]; exact h i hi⟩
structure OutW (Q1 Q2 : Nat → Prop) (w : World) (o : OutD) (ea va : Option Addr) : Prop where
  ex : Ints Q1 .i64 w ea o.en o.ex
  soft : SoftQ Q1 w
  ev : EvW Q2 w va o.vn o.ev
  apart : ∀ b, Q1 b → ¬ Q2 b
  lt : ∀ b, Q1 b ∨ Q2 b → b < w.heap.size
theorem OutW.on {Q1 Q2 : Nat → Prop} {w w' : World} {o : OutD} {ea va : Option Addr} (h : OutW Q1 Q2 w o ea va) (k : Stay (fun b => Q1 b ∨ Q2 b) w w') (hs : w.heap.size ≤ w'.heap.size) : OutW Q1 Q2 w' o ea va :=
  ⟨h.ex.on (fun b hb => k b (.inl hb)), fun b j hb => (World.frozen?_of_block (a := ⟨b, j, none⟩) (k b (.inl hb))).trans (h.soft b j hb), h.ev.on (fun b hb => k b (.inr hb)), h.apart, fun b hb => Nat.lt_of_lt_of_le (h.lt b hb) hs⟩
theorem OutW.out {Q1 Q2 : Nat → Prop} {w : World} {o : OutD} {ea va : Option Addr} (h : OutW Q1 Q2 w o ea va) : OutA (fun b => Q1 b ∨ Q2 b) w o ea va := ⟨h.ex.wide (fun b q => .inl q), h.ev.ev.wide (fun b q => .inr q)⟩
end
section
open Go.RowKit
open M (OpD NodeD Gr InsD)
def hasP (S : Nat → Int) (b : Int) : Nat → Bool
  | 0 => false
  | m + 1 => hasP S b m || (decide (S (2 * m) ≤ b) && decide (b ≤ S (2 * m + 1)))
def hasN (n : Nat) (S : Nat → Int) (b : Int) : Bool := hasP S b (n / 2)
structure FrD where
  kind : Int
  to : Int
  pos : Nat
  log : Nat
structure MSt where
  at_ : Int
  pos : Nat
  st : List FrD
  log : List EvD
  far : Nat
  exp : Nat → Bool
  steps : Nat
  throws : Nat
  done : Bool
  code : Int
  label : Int
def MSt.inNot (s : MSt) : Bool := s.st.any (fun f => f.kind == 1)
def MSt.fin (s : MSt) (c : Int) : MSt := { s with done := true, code := c }
def MSt.push (s : MSt) (f : FrD) (most : Int) : MSt := if (s.st.length : Int) ≥ most then s.fin 3 else { s with st := s.st ++ [f] }
def unwind : List FrD → Option (FrD × List FrD)
  | [] => none
  | f :: r => if f.kind = 2 then unwind r else some (f, r)
def MSt.fail (s : MSt) : MSt :=
  match unwind s.st.reverse with
  | none => s.fin 1
  | some (f, r) => { s with st := r.reverse, pos := f.pos, log := s.log.take f.log, at_ := f.to }
def FrC (w : World) (b o : Nat) (f : FrD) : Prop := w.cell? ⟨b, o, none⟩ = some (.int .i64 f.kind) ∧ w.cell? ⟨b, o + 1, none⟩ = some (.int .i64 f.to) ∧ w.cell? ⟨b, o + 2, none⟩ = some (.int .i64 (f.pos : Int)) ∧ w.cell? ⟨b, o + 3, none⟩ = some (.int .i64 (f.log : Int))
def FrA (w : World) (a : Option Addr) (l : List FrD) : Prop :=
  l.length = 0 ∨ ∃ b, a = some ⟨b, 0, none⟩ ∧ ∀ i f, l[i]? = some f → FrC w b (i * 4) f
theorem FrA.later {w w' : World} {a : Option Addr} {l : List FrD} (h : FrA w a l) (k : Below w.heap.size w w') : FrA w' a l := by
  rcases h with h | ⟨b, e, h⟩
  · exact .inl h
  · exact .inr ⟨b, e, fun i f hf => ⟨cell_on (h i f hf).1 k, cell_on (h i f hf).2.1 k, cell_on (h i f hf).2.2.1 k, cell_on (h i f hf).2.2.2 k⟩⟩
end
section
open Go.RowKit
open M (OpD NodeD Gr InsD)
def MSt.top (s : MSt) (k : Int) : Bool := match s.st.getLast? with | none => false | some f => f.kind == k
end
section
open Go.RowKit
def Wr (w : World) (g n : Nat) : Prop := ∀ j, j < n → (w.cell? ⟨g, j, none⟩).isSome = true ∧ w.frozen? ⟨g, j, none⟩ = false
def OwnC (Q : Nat → Prop) (w : World) (v : Value) (sz n : Nat) (cs : List Value) : Prop :=
  (v = .slice none 0 0 ∧ n = 0 ∧ cs = []) ∨ ∃ g cap, v = .slice (some ⟨g, 0, none⟩) n cap ∧ Q g ∧ cs.length = n * sz ∧ n ≤ cap ∧ (∀ j, j < cs.length → w.cell? ⟨g, j, none⟩ = cs[j]?) ∧ Wr w g (cap * sz)
structure Grew (Q : Nat → Prop) (w w' : World) : Prop where
  os : w'.os = w.os
  tape : w'.tape = w.tape
  output : w'.output = w.output
  size : w.heap.size ≤ w'.heap.size
  block : ∀ b, b < w.heap.size → ¬ Q b → w'.heap[b]? = w.heap[b]?
  frozen : ∀ b o, b < w.heap.size → w'.frozen? ⟨b, o, none⟩ = w.frozen? ⟨b, o, none⟩
  fresh : ∀ b o, w.heap.size ≤ b → b < w'.heap.size → w'.frozen? ⟨b, o, none⟩ = false
theorem Soft.grew {Q : Nat → Prop} {w0 w w' : World} (h : Soft w0 w) (g : Grew Q w w') : Soft w0 w' := fun b o h1 h2 => by
  by_cases e : b < w.heap.size
  · rw [g.frozen b o e]; exact h b o h1 e
  · exact g.fresh b o (by omega) h2
theorem Wr.later {w w' : World} {g n : Nat} (h : Wr w g n) (k : w'.heap[g]? = w.heap[g]?) : Wr w' g n := fun j hj => by
  rw [World.cell?_of_block (a := ⟨g, j, none⟩) k, World.frozen?_of_block (a := ⟨g, j, none⟩) k]; exact h j hj
theorem OwnC.on {Q : Nat → Prop} {w w' : World} {v : Value} {sz n : Nat} {cs : List Value} (h : OwnC Q w v sz n cs) (k : Stay Q w w') : OwnC Q w' v sz n cs := by
  rcases h with h | ⟨g, cap, h1, h2, h3, h4, h5, h6⟩
  · exact .inl h
  · exact .inr ⟨g, cap, h1, h2, h3, h4, fun j hj => by rw [World.cell?_of_block (a := ⟨g, j, none⟩) (k g h2)]; exact h5 j hj, h6.later (k g h2)⟩
theorem setCells_block (g : Nat) : ∀ (vs : List Value) (o : Nat) (w : World) (b : Nat), b ≠ g → (w.setCells g o vs).heap[b]? = w.heap[b]?
  | [], _, _, _, _ => rfl
  | v :: r, o, w, b, h => by
    show ((w.setCell ⟨g, o, none⟩ v).setCells g (o + 1) r).heap[b]? = _
    rw [setCells_block g r (o + 1) _ b h, Below.heap_setCell _ _ _ _ h]
theorem setCells_size (g : Nat) : ∀ (vs : List Value) (o : Nat) (w : World), (w.setCells g o vs).heap.size = w.heap.size
  | [], _, _ => rfl
  | v :: r, o, w => by
    show ((w.setCell ⟨g, o, none⟩ v).setCells g (o + 1) r).heap.size = _
    rw [setCells_size g r (o + 1) _, size_set]
theorem setCells_os (g : Nat) : ∀ (vs : List Value) (o : Nat) (w : World), (w.setCells g o vs).os = w.os ∧ (w.setCells g o vs).tape = w.tape ∧ (w.setCells g o vs).output = w.output
  | [], _, _ => ⟨rfl, rfl, rfl⟩
  | v :: r, o, w => setCells_os g r (o + 1) (w.setCell ⟨g, o, none⟩ v)
theorem appC_run {Q : Nat → Prop} {w : World} {v x : Value} {sz n m : Nat} {cs news : List Value} {t tx e : TypeId} (ty : TypeId) {i : TypeInfo} {z : Value} {bytes : Nat} (ht : Tryz.prog.underlying t = some (.slice e)) (hi : Tryz.prog.info? e = some i) (hz0 : i.zero = some z) (hz1 : i.size = sz) (hz2 : i.bytes = bytes)
    (hzc : z.cells.size = sz) (hown : OwnC Q w v sz n cs) (hs : Src Tryz.prog sz tx x m news w) (hlen : n + m ≤ 16777216) (hb : bytes ≤ 128) (hm : v = .slice none 0 0 → 0 < m) :
    ∃ v' w', (Builtin.append_ #[t, tx] ty #[v, x]).run Tryz.prog w = .ok v' w' ∧ OwnC (fun b => Q b ∨ w.heap.size ≤ b) w' v' sz (n + m) (cs ++ news) ∧ Grew (fun b => Q b) w w' ∧ w'.heap.size ≤ w.heap.size + 1 := by
  subst hz1
  have grow : ∀ (base : Option Addr) (cap : Nat) (hf : (Builtin.firstCells i.size n (.slice base n cap)).run Tryz.prog w.drew = .ok cs.toArray w.drew), cs.length = n * i.size → cap < n + m → v = .slice base n cap →
      ∃ v' w', (Builtin.append_ #[t, tx] ty #[v, x]).run Tryz.prog w = .ok v' w' ∧ OwnC (fun b => Q b ∨ w.heap.size ≤ b) w' v' i.size (n + m) (cs ++ news) ∧ Grew (fun b => Q b) w w' ∧ w'.heap.size ≤ w.heap.size + 1 := by
    rintro base cap hf hcl hfull rfl
    have hr := run_append_grow_src (P := Tryz.prog) w t tx ty e i z ht hi hz0 base n cap cs hf x m news hs hfull (by omega) (by rw [hz2]; exact growslice_fits hfull (by have : (n + m) * bytes ≤ 16777216 * 128 := Nat.mul_le_mul hlen hb; omega))
    have hge := grownCap_ge w (n + m) cap e
    refine ⟨_, _, hr, .inr ⟨w.heap.size, _, rfl, .inr (Nat.le_refl _), by rw [List.length_append, hcl, hs.newsLen, Nat.add_mul], hge, fun j hj => ?_, fun j hj => ⟨?_, ?_⟩⟩, ⟨rfl, rfl, rfl, by simp, fun b hb _ => Below.heap_alloc w.drew _ _ hb, fun b o hb => World.frozen?_of_block (a := ⟨b, o, none⟩) (Below.heap_alloc w.drew _ _ hb), fun b o h1 h2 => soft1 w.drew _ e b o h1 h2⟩, by simp⟩
    · have h := World.alloc_heap_new w.drew (Obj.cells ((cs ++ news).toArray ++ Builtin.zeroCells z.cells (grownCap w (n + m) cap e - (n + m))) e)
      have h' : (w.drew.alloc (Obj.cells ((cs ++ news).toArray ++ Builtin.zeroCells z.cells (grownCap w (n + m) cap e - (n + m))) e)).heap[w.heap.size]? = some (Obj.cells ((cs ++ news).toArray ++ Builtin.zeroCells z.cells (grownCap w (n + m) cap e - (n + m))) e) := h
      simp only [World.cell?, h']
      rw [Array.getElem?_append_left (by simpa using hj)]
      simp
    · have h := World.alloc_heap_new w.drew (Obj.cells ((cs ++ news).toArray ++ Builtin.zeroCells z.cells (grownCap w (n + m) cap e - (n + m))) e)
      have h' : (w.drew.alloc (Obj.cells ((cs ++ news).toArray ++ Builtin.zeroCells z.cells (grownCap w (n + m) cap e - (n + m))) e)).heap[w.heap.size]? = some (Obj.cells ((cs ++ news).toArray ++ Builtin.zeroCells z.cells (grownCap w (n + m) cap e - (n + m))) e) := h
      simp only [World.cell?, h']
      have hsz : ((cs ++ news).toArray ++ Builtin.zeroCells z.cells (grownCap w (n + m) cap e - (n + m))).size = grownCap w (n + m) cap e * i.size := by
        simp only [Array.size_append, List.size_toArray, List.length_append, hcl, hs.newsLen, size_zeroCells, hzc]
        generalize grownCap w (n + m) cap e = G at hge ⊢
        obtain ⟨k, rfl⟩ : ∃ k, G = n + m + k := ⟨G - (n + m), by omega⟩
        rw [show n + m + k - (n + m) = k by omega, Nat.add_mul, Nat.add_mul]
      rw [Array.getElem?_eq_getElem (by rw [hsz]; exact hj)]
      rfl
    · have h := World.alloc_heap_new w.drew (Obj.cells ((cs ++ news).toArray ++ Builtin.zeroCells z.cells (grownCap w (n + m) cap e - (n + m))) e)
      have h' : (w.drew.alloc (Obj.cells ((cs ++ news).toArray ++ Builtin.zeroCells z.cells (grownCap w (n + m) cap e - (n + m))) e)).heap[w.heap.size]? = some (Obj.cells ((cs ++ news).toArray ++ Builtin.zeroCells z.cells (grownCap w (n + m) cap e - (n + m))) e) := h
      simp only [World.frozen?, h']
      simp
  rcases hown with ⟨rfl, rfl, rfl⟩ | ⟨g, cap, rfl, hQ, hcl, hnc, hc, hw⟩
  · exact grow none 0 (by rw [run_firstCells_none]) (by simp) (by have := hm rfl; omega) rfl
  · by_cases hroom : n + m ≤ cap
    · have hr := run_append_room_src (P := Tryz.prog) w t tx ty e i ht hi g 0 n cap x m news hs hroom
        (fun j hj => by rw [Nat.zero_add]; rw [hs.newsLen] at hj; exact (hw _ (by have : (n + m) * i.size ≤ cap * i.size := Nat.mul_le_mul_right _ hroom; rw [Nat.add_mul] at this; omega)).1)
        (fun j hj => by rw [Nat.zero_add]; rw [hs.newsLen] at hj; exact (hw _ (by have : (n + m) * i.size ≤ cap * i.size := Nat.mul_le_mul_right _ hroom; rw [Nat.add_mul] at this; omega)).2)
      rw [Nat.zero_add] at hr
      have hcap : (n + m) * i.size ≤ cap * i.size := Nat.mul_le_mul_right _ hroom
      rw [Nat.add_mul] at hcap
      have hnl := hs.newsLen
      obtain ⟨o1, o2, o3⟩ := setCells_os g news (n * i.size) w
      refine ⟨_, _, hr, .inr ⟨g, cap, rfl, .inl hQ, by rw [List.length_append, hcl, hs.newsLen, Nat.add_mul], by omega, fun j hj => ?_, fun j hj => ⟨?_, ?_⟩⟩, ⟨o1, o2, o3, by rw [setCells_size]; exact Nat.le_refl _, fun b _ hb => setCells_block g _ _ _ _ (fun e => hb (e ▸ hQ)), fun b o _ => World.frozen?_setCells _ _ _ _ _, fun b o h1 h2 => by rw [setCells_size] at h2; omega⟩, by rw [setCells_size]; omega⟩
      · rw [List.length_append, hnl] at hj
        by_cases hlt : j < n * i.size
        · rw [World.cell?_setCells_out g _ _ w _ (fun _ _ => Or.inl hlt), List.getElem?_append_left (by omega)]
          exact hc j (by omega)
        · have h2 := World.cell?_setCells_in g news (n * i.size) w (fun k hk => (hw _ (by omega)).1) (j - n * i.size) (by omega)
          rw [show n * i.size + (j - n * i.size) = j by omega] at h2
          rw [h2, List.getElem?_append_right (by omega), hcl, List.getElem?_eq_getElem (by omega)]
      · by_cases hin : n * i.size ≤ j ∧ j < n * i.size + news.length
        · have h2 := World.cell?_setCells_in g news (n * i.size) w (fun k hk => (hw _ (by omega)).1) (j - n * i.size) (by omega)
          rw [show n * i.size + (j - n * i.size) = j by omega] at h2
          rw [h2]; rfl
        · rw [World.cell?_setCells_out g _ _ w _ (fun _ _ => by simp; omega)]
          exact (hw j hj).1
      · rw [World.frozen?_setCells]
        exact (hw j hj).2
    · exact grow (some ⟨g, 0, none⟩) cap (run_firstCells_some (P := Tryz.prog) w.drew i.size n ⟨g, 0, none⟩ n cap cs hcl (fun j u hu => by
        have hj : j < cs.length := (List.getElem?_eq_some_iff.1 hu).1
        have e' : (⟨g, 0, none⟩ : Addr).add j = ⟨g, j, none⟩ := by
          by_cases h0 : j = 0
          · subst h0; simp [Addr.add]
          · simp [Addr.add, h0]
        rw [e', ← hu]
        exact hc j hj)) hcl (by omega) rfl
structure ElemT (t e : TypeId) (sz bytes : Nat) : Prop where
  und : Tryz.prog.underlying t = some (.slice e)
  info : ∃ z, (Tryz.prog.info? e).map (fun i => (i.zero, i.size, i.bytes)) = some (some z, sz, bytes) ∧ z.cells.size = sz
  bytes : bytes ≤ 128
theorem appC_run' {Q : Nat → Prop} {w : World} {v x : Value} {sz bytes n m : Nat} {cs news : List Value} {t tx e : TypeId} (ty : TypeId) (hE : ElemT t e sz bytes) (hown : OwnC Q w v sz n cs) (hs : Src Tryz.prog sz tx x m news w) (hlen : n + m ≤ 16777216) (hm : v = .slice none 0 0 → 0 < m) :
    ∃ v' w', (Builtin.append_ #[t, tx] ty #[v, x]).run Tryz.prog w = .ok v' w' ∧ OwnC (fun b => Q b ∨ w.heap.size ≤ b) w' v' sz (n + m) (cs ++ news) ∧ Grew (fun b => Q b) w w' ∧ w'.heap.size ≤ w.heap.size + 1 := by
  obtain ⟨z, hi, hzc⟩ := hE.info
  obtain ⟨i, hi', hzz⟩ := Option.map_eq_some_iff.1 hi
  simp only [Prod.mk.injEq] at hzz
  obtain ⟨hz0, hz1, hz2⟩ := hzz
  exact appC_run ty hE.und hi' hz0 hz1 hz2 hzc hown hs hlen hE.bytes hm
theorem elem40 : ElemT 40 3 1 8 := ⟨Tryz.underlying40, ⟨_, info3', rfl⟩, by omega⟩
theorem elem22 : ElemT 22 5 1 1 := ⟨Tryz.underlying22, ⟨_, info5, rfl⟩, by omega⟩
theorem elem48 : ElemT 48 78 3 40 := ⟨Tryz.underlying48, ⟨_, info78, rfl⟩, by omega⟩
theorem elem23 : ElemT 23 53 2 48 := ⟨Tryz.underlying23, ⟨_, info53, rfl⟩, by omega⟩
end
section
open Go.RowKit
open M (OpD NodeD Gr InsD)
theorem own_shape {Q : Nat → Prop} {w : World} {v : Value} {sz n : Nat} {cs : List Value} (h : OwnC Q w v sz n cs) : ∃ a c, v = .slice a n c := by
  rcases h with ⟨rfl, rfl, _⟩ | ⟨g, cap, rfl, _⟩
  · exact ⟨none, 0, rfl⟩
  · exact ⟨_, _, rfl⟩
theorem ownC_wide {Q Q' : Nat → Prop} {w : World} {v : Value} {sz n : Nat} {cs : List Value} (h : OwnC Q w v sz n cs) (k : ∀ b, Q b → Q' b) : OwnC Q' w v sz n cs := by
  rcases h with h | ⟨g, cap, e, hq, h3⟩
  · exact .inl h
  · exact .inr ⟨g, cap, e, k g hq, h3⟩
structure Kept (K : Nat → Prop) (w w' : World) : Prop where
  os : w'.os = w.os
  tape : w'.tape = w.tape
  output : w'.output = w.output
  size : w.heap.size ≤ w'.heap.size
  block : ∀ b, b < w.heap.size → ¬ K b → w'.heap[b]? = w.heap[b]?
theorem Kept.of {K : Nat → Prop} {w w' : World} (h : Below w.heap.size w w') : Kept K w w' := ⟨h.os, h.tape, h.output, h.size, fun b hb _ => h.block b hb⟩
theorem Kept.set {K : Nat → Prop} {w w' : World} (h : Kept K w w') (b o : Nat) (v : Value) (hb : w.heap.size ≤ b) : Kept K w (w'.setCell ⟨b, o, none⟩ v) :=
  ⟨h.os, h.tape, h.output, by rw [size_set]; exact h.size, fun x hx hk => (Below.heap_setCell _ _ _ x (fun e => by simp at e; omega)).trans (h.block x hx hk)⟩
theorem Kept.grew {K : Nat → Prop} {w Y W : World} (hY : Below w.heap.size w Y) (hG : Grew (fun b => K b) Y W) : Kept K w W :=
  ⟨hG.os.trans hY.os, hG.tape.trans hY.tape, hG.output.trans hY.output, Nat.le_trans hY.size hG.size, fun b hb hk => (hG.block b (by have := hY.size; omega) hk).trans (hY.block b hb)⟩
end
end Go.Proofs.YteoddjobpmmgeaaGreat
