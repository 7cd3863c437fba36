/-
  A range over a function, for iterators that keep cells of their own and that range over another iterator themselves.
  The border between the two parties is drawn by block numbers: what the caller may write is the set C; what the iterator leans on is the set D;
  what lies from the iterator's start on is the iterator's.
-/
import Derived.RangeFuncNested
import Derived.RangeFuncBound
import Derived.RangeFuncCalls
import Derived.RangeFuncLeaves
namespace Go.Proofs.Ytjndcajblpgjmaa
open Go.RowKit

/-- Every block that is not in C lies as it lay. -/
structure Keep (C : Nat → Prop) (W W' : World) : Prop where
  os : W'.os = W.os
  tape : W'.tape = W.tape
  output : W'.output = W.output
  size : W.heap.size ≤ W'.heap.size
  block : ∀ k, k < W.heap.size → ¬ C k → W'.heap[k]? = W.heap[k]?

theorem Keep.refl (C : Nat → Prop) (W : World) : Keep C W W := ⟨rfl, rfl, rfl, Nat.le_refl _, fun _ _ _ => rfl⟩
theorem Keep.trans {C : Nat → Prop} {A B E : World} (h : Keep C A B) (k : Keep C B E) : Keep C A E :=
  ⟨k.os.trans h.os, k.tape.trans h.tape, k.output.trans h.output, Nat.le_trans h.size k.size, fun i hi hc => (k.block i (Nat.lt_of_lt_of_le hi h.size) hc).trans (h.block i hi hc)⟩
theorem Keep.mono {C C' : Nat → Prop} {A B : World} (h : Keep C A B) (hc : ∀ k, C k → C' k) : Keep C' A B :=
  ⟨h.os, h.tape, h.output, h.size, fun i hi hn => h.block i hi (fun q => hn (hc i q))⟩
theorem Keep.alloc (C : Nat → Prop) (W : World) (o : Obj) : Keep C W (W.alloc o) :=
  ⟨rfl, rfl, rfl, by simp, fun k hk _ => Below.heap_alloc W o k hk⟩
theorem Keep.drew (C : Nat → Prop) (W : World) : Keep C W W.drew := ⟨rfl, rfl, rfl, Nat.le_refl _, fun _ _ _ => rfl⟩
theorem Keep.setCell {C : Nat → Prop} (W : World) (a : Addr) (v : Value) (h : C a.block) : Keep C W (W.setCell a v) :=
  ⟨rfl, rfl, rfl, by simp [World.setCell], fun k _ hn => Below.heap_setCell _ _ _ _ (fun e => hn (e ▸ h))⟩
theorem Keep.putObj {C : Nat → Prop} (W : World) (r : Nat) (o : Obj) (h : C r) : Keep C W (W.putObj r o) :=
  ⟨rfl, rfl, rfl, by simp, fun k _ hn => World.putObj_heap_other (fun e => hn (e ▸ h))⟩
theorem Keep.of_below {C : Nat → Prop} {B : Nat} {W W' : World} (h : Below B W W') (hc : ∀ k, k < W.heap.size → ¬ C k → k < B) : Keep C W W' :=
  ⟨h.os, h.tape, h.output, h.size, fun k hk hn => h.block k (hc k hk hn)⟩
theorem Keep.below {C : Nat → Prop} {B : Nat} {W W' : World} (h : Keep C W W') (hB : B ≤ W.heap.size) (hc : ∀ k, k < B → ¬ C k) : Below B W W' :=
  ⟨h.os, h.tape, h.output, h.size, fun k hk => h.block k (by omega) (hc k hk)⟩
theorem Keep.cell {C : Nat → Prop} {W W' : World} (h : Keep C W W') {p : Addr} (hp : p.block < W.heap.size) (hc : ¬ C p.block) : W'.cell? p = W.cell? p :=
  World.cell?_of_block (h.block p.block hp hc)
theorem Keep.frozen {C : Nat → Prop} {W W' : World} (h : Keep C W W') {p : Addr} (hp : p.block < W.heap.size) (hc : ¬ C p.block) : W'.frozen? p = W.frozen? p :=
  World.frozen?_of_block (h.block p.block hp hc)

theorem cellNew (W : World) (v : Value) (t : TypeId) : (W.alloc (.cells #[v] t)).cell? ⟨W.heap.size, 0, none⟩ = some v := by
  have h := World.alloc_heap_new W (.cells #[v] t)
  simp only [World.cell?, h]
  rfl
theorem frozenNew (W : World) (v : Value) (t : TypeId) : (W.alloc (.cells #[v] t)).frozen? ⟨W.heap.size, 0, none⟩ = false := by
  have h := World.alloc_heap_new W (.cells #[v] t)
  simp only [World.frozen?, h]
  rfl
theorem cellOn {W : World} {a : Addr} {v : Value} (o : Obj) (h : W.cell? a = some v) : (W.alloc o).cell? a = some v := cell_kept h (World.grownBy_alloc W o none) (fun r e => by cases e)
theorem frozenOn {W : World} {a : Addr} {v : Value} (o : Obj) (h : W.cell? a = some v) (hf : W.frozen? a = false) : (W.alloc o).frozen? a = false := (frozen_kept h (World.grownBy_alloc W o none) (fun r e => by cases e)).trans hf

theorem belowPut {B d : Nat} (W : World) (o : Obj) (h : B ≤ d) (hs : B ≤ W.heap.size) : Below B W (W.putObj d o) :=
  (Below.refl _ W).grown (grownBy_putObj' W d o) hs (fun k e => by cases e; exact h)

/-- What is said of a world speaks of blocks below B alone. -/
def Ab {σ : Type} (B : Nat) (J : σ → World → Prop) : Prop := ∀ s A E, J s A → Below B A E → J s E

theorem Ab.mono {σ : Type} {B B' : Nat} {J : σ → World → Prop} (h : Ab B J) (hB : B ≤ B') : Ab B' J := fun s A E hs hb => h s A E hs (hb.mono hB)

/-- The contract of an iterator value: from the state s0 on, while 'more' holds, it hands enc s to yield and goes on to next s. -/
def Gives {σ : Type} (P : Program) (g : Nat) (lb : Array Value) (s0 : σ) (more : σ → Prop) (next : σ → σ) (enc : σ → Array Value) (D : Nat → Prop) (w : World) : Prop :=
  ∀ (l : Nat) (C : Nat → Prop) (J Jx : σ → World → Prop) (W : World), w.heap.size ≤ W.heap.size → (∀ k, D k → W.heap[k]? = w.heap[k]?) → (∀ k, D k → ¬ C k) → (∀ k, W.heap.size ≤ k → ¬ C k) →
    Ab W.heap.size J → Ab W.heap.size Jx →
    (∀ s W1, J s W1 → more s → YieldAt Fence.wide 0 P l (enc s) W1 fun e W' =>
      (e = .returned (.bool true) ∧ J (next s) W' ∧ Keep C W1 W') ∨ (e = .returned (.bool false) ∧ Jx s W' ∧ Keep C W1 W')) →
    J s0 W →
    CallsIn Fence.wide 0 P g (#[.func (.yield l) #[] #[]] ++ lb) W fun e W' => (∃ v, e = .returned v) ∧ ((∃ s, ¬ more s ∧ J s W') ∨ (∃ s, more s ∧ Jx s W'))

/-- How the body of a round may be left. -/
def roundEnds {σ : Type} (C : Nat → Prop) (I : σ → World → Prop) (Ix : Code → σ → World → Prop) (s s' : σ) (W : World) : Exit → Act → World → Prop
  | .normal, _, W' => Keep C W W' ∧ I s' W'
  | .ret, _, W' => Keep C W W' ∧ Ix .ret s W'
  | .exit id, _, W' => Keep C W W' ∧ Ix (.exit id) s W'
  | .goto t, _, W' => Keep C W W' ∧ Ix (.goto t) s W'
  | .panic _, _, _ => False
  | .outgrown, _, _ => False

/-- THE STATEMENT 'for .. := range g { .. }' in a function's own frame. -/
theorem range_law {P : Program} {σ : Type} {g : Operand} {ps : Array Tmp} {assign body : Code} {Q : Exit → Act → World → Prop} {a : Act} {w : World}
    {gf : Nat} {lb : Array Value} (hg : a.eval g = .func (.func gf) #[] lb) (eg : ∀ args w, (callFunc gf args).run P w = .ok (.enter gf args) w)
    {s0 : σ} {more : σ → Prop} {next : σ → σ} {enc : σ → Array Value} {D : Nat → Prop} (hseq : Gives P gf lb s0 more next enc D w) (hps : ∀ s, (enc s).size = ps.size)
    (hD : ∀ k, D k → k < w.heap.size)
    (C : Nat → Prop) (hCD : ∀ k, D k → ¬ C k) (hCw : ∀ k, w.heap.size ≤ k → ¬ C k)
    (I : σ → World → Prop) (Ix : Code → σ → World → Prop) (hI : Ab w.heap.size I) (hIx : ∀ c, Ab w.heap.size (Ix c)) (h0 : I s0 w)
    (hround : ∀ (l : Nat) (s : σ) (W : World), w.heap.size ≤ l → l < W.heap.size → I s W → more s →
      assign.wpIn (Fence.wide.inRound l) 0 P (Exit.then (fun a₁ W₁ => Keep C W W₁ ∧ I s W₁ ∧ ∀ W₂, Keep (fun k => k = l) W₁ W₂ → W₂.heap.size = W₁.heap.size → I s W₂ →
          body.wpIn (Fence.wide.inRound l) 0 P (roundEnds C I Ix s (next s) W₂) a₁ W₂) (fun _ _ _ => False))
        { tmps := (ps.zip (enc s)).foldl (fun t (p, v) => t.setIfInBounds p v) a.tmps, defers := [] } W)
    (hdone : ∀ (d : Nat) (s : σ) (W : World), w.heap.size ≤ d → ¬ more s → I s W → W.heap[d]? = some (.deferred (some [])) → Q .normal { a with defers := { target := .collected d, args := #[] } :: a.defers } W)
    (hstop : ∀ (d : Nat) (c : Code) (s : σ) (W : World), w.heap.size ≤ d → more s → Ix c s W → W.heap[d]? = some (.deferred (some [])) → c.wpIn Fence.wide 0 P Q { a with defers := { target := .collected d, args := #[] } :: a.defers } W) :
    (Code.rangeFunc g ps assign body).wpIn Fence.wide 0 P Q a w := by
  refine wpIn_rangeFunc ?_
  intro fn hfn
  obtain ⟨rec, hrec⟩ : ∃ rec : LoopState → Option Code → Loop, rec = fun st pe => { state := st, pending := pe, fn, tmps := a.tmps, params := ps, assign, body, defers := w.heap.size } := ⟨_, rfl⟩
  obtain ⟨W1, hW1⟩ : ∃ W1, (w.alloc (.deferred (some []))).alloc (.loop (rec .ready none)) = W1 := ⟨_, rfl⟩
  have hs1 : W1.heap.size = w.heap.size + 2 := by rw [← hW1]; simp
  have hL1 : W1.heap[w.heap.size + 1]? = some (.loop (rec .ready none)) := by
    rw [← hW1]; have := World.alloc_heap_new (w.alloc (.deferred (some []))) (.loop (rec .ready none)); rwa [World.size_alloc] at this
  have hK1 : W1.heap[w.heap.size]? = some (.deferred (some [])) := by
    rw [← hW1]; exact (Below.heap_alloc _ _ _ (by simp)).trans (World.alloc_heap_new w _)
  have hb1 : Below w.heap.size w W1 := by
    rw [← hW1]; exact ((Below.refl _ w).alloc (Nat.le_refl _) _).alloc (by simp) _
  have hput : ∀ (W : World) (o : Obj), w.heap.size + 1 < W.heap.size → Below w.heap.size W (W.putObj (w.heap.size + 1) o) := fun W o hlt =>
    (Below.refl _ W).grown (grownBy_putObj' W _ o) (by omega) (fun k e => by cases e; omega)
  refine ⟨w.heap.size + 1, [{ target := .collected w.heap.size, args := #[] }], W1, { target := .fn (.func gf) lb, args := #[.func (.yield (w.heap.size + 1)) #[] #[]] }, W1, gf,
    #[.func (.yield (w.heap.size + 1)) #[] #[]] ++ lb, W1, ?_, ?_, ?_, ?_, ?_, ?_⟩
  · rw [← hW1, hrec]; exact run_enterLoop_outer _ _ _ _ _
  · simp only [resolve, hg]
    simp [go_sem]
  · intro f' _; trivial
  · simp [invoke, go_sem, eg]
  · intro h; simp [Fence.wide] at h
  · refine (hseq (w.heap.size + 1) (fun k => C k ∨ k = w.heap.size + 1)
      (fun s W => I s W ∧ W.heap[w.heap.size + 1]? = some (.loop (rec .ready none)) ∧ W.heap[w.heap.size]? = some (.deferred (some [])))
      (fun s W => ∃ c, Ix c s W ∧ W.heap[w.heap.size + 1]? = some (.loop (rec .done (some c))) ∧ W.heap[w.heap.size]? = some (.deferred (some [])))
      W1 (by omega) (fun k hk => hb1.block k (hD k hk)) (fun k hk hc => hc.elim (hCD k hk) (fun e => by have := hD k hk; omega)) (fun k hk hc => hc.elim (hCw k (by omega)) (fun e => by omega))
      (fun s A E hs hb => ⟨hI s A E hs.1 (hb.mono (by omega)), (hb.block _ (by omega)).trans hs.2.1, (hb.block _ (by omega)).trans hs.2.2⟩)
      (fun s A E hs hb => by
        obtain ⟨c, hc, hl, hk⟩ := hs
        exact ⟨c, hIx c s A E hc (hb.mono (by omega)), (hb.block _ (by omega)).trans hl, (hb.block _ (by omega)).trans hk⟩)
      ?_ ⟨hI s0 w W1 h0 hb1, hL1, hK1⟩).mono ?_
    · -- one round
      rintro s W ⟨hi, hl, hk⟩ hm
      have hlt : w.heap.size + 1 < W.heap.size := (Array.getElem?_eq_some_iff.1 hl).1
      have hy := run_yield (P := P) (args := enc s) hl (by rw [hrec]; exact hps s)
      rw [hrec] at hy
      refine ⟨fn, _, assign, body, hy, roundIn_of_wpIn hfn (wpIn_mono (hround _ s W (by omega) hlt hi hm) ?_)⟩
      intro e a₁ Wa hp
      cases e with
      | normal =>
        obtain ⟨hka, hia, hb⟩ := hp
        have hla : Wa.heap[w.heap.size + 1]? = some (.loop (rec .ready none)) := (hka.block _ hlt (hCw _ (by omega))).trans hl
        have hda : Wa.heap[w.heap.size]? = some (.deferred (some [])) := (hka.block _ (by omega) (hCw _ (by omega))).trans hk
        have hlta : w.heap.size + 1 < Wa.heap.size := Nat.lt_of_lt_of_le hlt hka.size
        refine ⟨_, run_beginRound hla (by rw [hrec]), ?_⟩
        have hib := hI s Wa _ hia (hput Wa (.loop { rec .ready none with state := .busy }) hlta)
        have hlb : (Wa.putObj (w.heap.size + 1) (.loop { rec .ready none with state := .busy })).heap[w.heap.size + 1]? = some (.loop { rec .ready none with state := .busy }) := World.putObj_heap_same hlta
        have hdb : (Wa.putObj (w.heap.size + 1) (.loop { rec .ready none with state := .busy })).heap[w.heap.size]? = some (.deferred (some [])) := (World.putObj_heap_other (by omega)).trans hda
        refine wpIn_mono (hb _ (Keep.putObj _ _ _ rfl) (by simp) hib) ?_
        have fin : ∀ (jump : Option Code) (W3 : World), Keep C (Wa.putObj (w.heap.size + 1) (.loop { rec .ready none with state := .busy })) W3 →
            (Instr.endRound (w.heap.size + 1) jump).run P W3 = .ok (.bool jump.isNone) (W3.putObj (w.heap.size + 1) (.loop (rec (if jump.isNone then .ready else .done) jump))) ∧
            w.heap.size + 1 < W3.heap.size ∧
            (W3.putObj (w.heap.size + 1) (.loop (rec (if jump.isNone then .ready else .done) jump))).heap[w.heap.size + 1]? = some (.loop (rec (if jump.isNone then .ready else .done) jump)) ∧
            (W3.putObj (w.heap.size + 1) (.loop (rec (if jump.isNone then .ready else .done) jump))).heap[w.heap.size]? = some (.deferred (some [])) := fun jump W3 hk3 => by
          have hl3 := (hk3.block _ (by simpa using hlta) (hCw _ (by omega))).trans hlb
          have hd3 := (hk3.block w.heap.size (by simp; omega) (hCw _ (by omega))).trans hdb
          have := run_endRound (P := P) jump hl3
          rw [hrec] at this ⊢
          exact ⟨this, (Array.getElem?_eq_some_iff.1 hl3).1, World.putObj_heap_same (Array.getElem?_eq_some_iff.1 hl3).1, (World.putObj_heap_other (by omega)).trans hd3⟩
        have hkeep : ∀ (W3 : World) (o : Obj), Keep C (Wa.putObj (w.heap.size + 1) (.loop { rec .ready none with state := .busy })) W3 → Keep (fun k => C k ∨ k = w.heap.size + 1) W (W3.putObj (w.heap.size + 1) o) := fun W3 o hk3 =>
          ((hka.mono fun _ => .inl).trans (Keep.putObj _ _ _ (.inr rfl))).trans ((hk3.mono fun _ => .inl).trans (Keep.putObj _ _ _ (.inr rfl)))
        rintro e a3 W3 hp
        cases e with
        | normal =>
          obtain ⟨hk3, hi3⟩ := hp
          obtain ⟨hr, hl3, hl4, hd4⟩ := fin none W3 hk3
          exact ⟨_, _, hr, .inl ⟨rfl, ⟨hI _ _ _ hi3 (hput W3 _ hl3), hl4, hd4⟩, hkeep W3 _ hk3⟩⟩
        | ret =>
          obtain ⟨hk3, hi3⟩ := hp
          obtain ⟨hr, hl3, hl4, hd4⟩ := fin (some .ret) W3 hk3
          exact ⟨_, _, hr, .inr ⟨rfl, ⟨.ret, hIx _ _ _ _ hi3 (hput W3 _ hl3), hl4, hd4⟩, hkeep W3 _ hk3⟩⟩
        | exit id =>
          obtain ⟨hk3, hi3⟩ := hp
          obtain ⟨hr, hl3, hl4, hd4⟩ := fin (some (.exit id)) W3 hk3
          exact ⟨_, _, hr, .inr ⟨rfl, ⟨.exit id, hIx _ _ _ _ hi3 (hput W3 _ hl3), hl4, hd4⟩, hkeep W3 _ hk3⟩⟩
        | goto t =>
          obtain ⟨hk3, hi3⟩ := hp
          obtain ⟨hr, hl3, hl4, hd4⟩ := fin (some (.goto t)) W3 hk3
          exact ⟨_, _, hr, .inr ⟨rfl, ⟨.goto t, hIx _ _ _ _ hi3 (hput W3 _ hl3), hl4, hd4⟩, hkeep W3 _ hk3⟩⟩
        | panic ch => exact hp.elim
        | outgrown => exact hp.elim
      | ret => exact hp.elim
      | exit id => exact hp.elim
      | goto t => exact hp.elim
      | panic ch => exact hp.elim
      | outgrown => exact hp.elim
    · -- behind the iterator
      rintro e W2 ⟨⟨v, rfl⟩, (⟨s, hm, hi, hl, hk⟩ | ⟨s, hm, c, hi, hl, hk⟩)⟩
      · exact ⟨none, _, by have := run_endLoop (P := P) hl (by rw [hrec]; simp); rw [hrec] at this; exact this,
          hdone _ s _ (Nat.le_refl _) hm (hI _ _ _ hi (hput W2 _ (Array.getElem?_eq_some_iff.1 hl).1)) ((World.putObj_heap_other (by omega)).trans hk)⟩
      · exact ⟨some c, _, by have := run_endLoop (P := P) hl (by rw [hrec]; simp); rw [hrec] at this; exact this,
          hstop _ c s _ (Nat.le_refl _) hm (hIx c _ _ _ hi (hput W2 _ (Array.getElem?_eq_some_iff.1 hl).1)) ((World.putObj_heap_other (by omega)).trans hk)⟩

end Go.Proofs.Ytjndcajblpgjmaa
