/-
  A region that draws its order, all of whose operations but the last are quiet in a class of worlds; the last one, which waits for all others, may write.
-/
import Derived.Test.YtjpcojabdjldbaaMem
import Derived.Deep.Quiet
namespace Go.Proofs.Ytjpcojabdjldbaa
open Go.RowKit
set_option linter.unusedVariables false

/-- The operation waits for all of the first L. -/
def waitsB (md : Region.Mode) (o : Oper) (L : Nat) : Bool := (List.range L).all fun j => o.after.any fun e => e.on == j && Region.binds md e
/-- Every operation waits for earlier ones alone. -/
def backB (ops : Array Oper) : Bool := (List.range ops.size).all fun j => match ops[j]? with | some o => o.after.all fun e => decide (e.on < j) | none => true

section
variable {P : Program} {md : Region.Mode} {ops : Array Oper} {C : World → Prop}

theorem getD_both {l : Array Bool} {j : Nat} (h : l.getD j true = true) (hj : j < l.size) : l.getD j false = true := by
  simp [Array.getD, hj] at h ⊢
  exact h

theorem ready_end (hb : backB ops = true) (listed : Array Bool) (hs : listed.size = ops.size) (h : Region.ready md ops listed = []) : ∀ j, j < ops.size → listed.getD j true = true := by
  intro j
  induction j using Nat.strongRecOn with
  | _ j ih =>
    intro hj
    cases e : listed.getD j true with
    | true => rfl
    | false =>
      have : j ∈ Region.ready md ops listed := by
        rw [mem_ready]
        refine ⟨e, ops[j], by simp [hj], fun x hx _ => ?_⟩
        have h1 := List.all_eq_true.1 hb j (List.mem_range.2 hj)
        simp only [Array.getElem?_eq_getElem hj] at h1
        have h2 := Array.all_eq_true'.1 h1 x hx
        have h3 : x.on < j := by simpa using h2
        exact getD_both (ih x.on h3 (by omega)) (by omega)
      rw [h] at this
      cases this

theorem wpAny_last {o : Oper} {L : Nat} (hsz : ops.size = L + 1) (hL : ops[L]? = some o) (hw : waitsB md o L = true) (hb : backB ops = true) {Q : Act → Prop} {Q' : Exit → Act → World → Prop}
    (hQ : ∀ a w, C w → Q a → Region.wanted o (yielded ops a.tmps) = true ∧ ∀ K : Act → World → Prop, (∀ a w, Q' .normal a w → K a w) → o.wp P a w K Q') :
    ∀ (fuel : Nat) (listed : Array Bool) (a : Act) (w : World), listed.size = L + 1 → listed.getD L true = false → C w → wpAnyQ P md ops C Q fuel (listed.setIfInBounds L true) a → wpAny P md ops Q' (fuel + 1) listed a w := by
  have fin : ∀ (fuel : Nat) (listed : Array Bool) (a : Act) (w : World), listed.size = L + 1 → listed.getD L true = false → C w → L ∈ Region.ready md ops listed → (Region.ready md ops (listed.setIfInBounds L true) = [] → Q a) → wpOp P ops Q' L (wpAny P md ops Q' fuel (listed.setIfInBounds L true)) a w := by
    intro fuel listed a w hs hun hC hr hq
    have hall : ∀ j, j < L → listed.getD j false = true := fun j hj => by
      obtain ⟨_, o', ho', h⟩ := mem_ready.1 hr
      rw [hL] at ho'
      cases ho'
      have h1 := List.all_eq_true.1 hw j (List.mem_range.2 hj)
      obtain ⟨i, hi, h2⟩ := Array.any_eq_true.1 h1
      simp only [Bool.and_eq_true, beq_iff_eq] at h2
      have := h _ (Array.getElem_mem hi) h2.2
      rw [h2.1] at this
      exact this
    have hre : Region.ready md ops (listed.setIfInBounds L true) = [] := by
      cases hx : Region.ready md ops (listed.setIfInBounds L true) with
      | nil => rfl
      | cons j r =>
        exfalso
        have hj : j ∈ Region.ready md ops (listed.setIfInBounds L true) := by rw [hx]; exact List.mem_cons_self
        obtain ⟨h0, o', ho', _⟩ := mem_ready.1 hj
        have hjs : j < ops.size := (Array.getElem?_eq_some_iff.1 ho').1
        by_cases e : j = L
        · subst e
          simp [Array.getD, hs] at h0
        · have hjl : j < L := by omega
          have := hall j hjl
          have hjl' : j < listed.size := by omega
          rw [getD_set_ne true (Ne.symm e)] at h0
          simp [Array.getD, hjl'] at h0 this
          rw [this] at h0
          cases h0
    obtain ⟨hwd, hwp⟩ := hQ a w hC (hq hre)
    unfold wpOp
    simp only [hL, hwd, if_true]
    refine .inl (hwp _ (fun a' w' h => ?_))
    cases fuel with
    | zero => exact ⟨hre, h⟩
    | succ fuel => exact ⟨fun _ => h, fun i hi => by rw [hre] at hi; cases hi⟩
  intro fuel
  induction fuel with
  | zero =>
    intro listed a w hs hun hC h
    refine ⟨fun h0 => ?_, fun i hi => ?_⟩
    · have := ready_end hb listed (by omega) h0 L (by omega)
      rw [hun] at this
      cases this
    · by_cases e : i = L
      · subst e; exact fin 0 listed a w hs hun hC hi (fun _ => h.2)
      · have := ready_mono hi e
        rw [h.1] at this
        cases this
  | succ fuel ih =>
    intro listed a w hs hun hC h
    refine ⟨fun h0 => ?_, fun i hi => ?_⟩
    · have := ready_end hb listed (by omega) h0 L (by omega)
      rw [hun] at this
      cases this
    · by_cases e : i = L
      · subst e; exact fin (fuel + 1) listed a w hs hun hC hi h.1
      · have h2 := h.2 i (ready_mono hi e)
        refine wpOp_of_qOp hC (fun a' w' hC' hK => ih (listed.setIfInBounds i true) a' w' (by simpa using hs) ?_ hC' ?_) h2
        · rw [getD_set_ne true e]; exact hun
        · rw [Array.setIfInBounds_comm _ _ e]; exact hK

/-- The lexical walk of a part of the region serves every order of that part. -/
theorem lex_part {Q : Act → Prop} (hs : Region.noSelect ops = true) (l : List Oper) : ∀ (k : Nat) (listed : Array Bool) (a : Act), (∀ j, j < l.length → l[j]? = ops[k + j]?) → Region.lexFrom md ops l.length k listed = true → wpQuiet P ops C Q l a → wpAnyQ P md ops C Q l.length listed a := by
  induction l with
  | nil => exact fun _ _ _ _ hB h => ⟨by simpa [Region.lexFrom] using hB, h⟩
  | cons o l ih =>
    intro k listed a hl hB h
    have h0 : ops[k]? = some o := by have := hl 0 (by simp); simpa using this.symm
    simp only [List.length_cons, Region.lexFrom, Bool.and_eq_true] at hB
    have hst : qOp P ops C k (wpQuiet P ops C Q l) a := by
      unfold qOp
      simp only [h0]
      exact h
    obtain ⟨v, hy, hK⟩ := yieldsIn_of_qOp h0 hst
    refine wpAnyQ_first h0 (Region.noSelect_spec hs) l.length listed a (Region.free_spec h0 hB.1.2) (by simpa using hB.1.1) hy (ih (k + 1) _ _ (fun j hj => ?_) hB.2 hK)
    have := hl (j + 1) (by simp; omega)
    rw [show k + 1 + j = k + (j + 1) by omega, ← this]
    simp

/-- The region, by one walk of all but its last operation. -/
theorem wp_region_last {o : Oper} {l : List Oper} {id : Nat} {Q' : Exit → Act → World → Prop} {a : Act} {w : World} (hm : P.follows .mixedOrders = true) (hw : waitsB .any o l.length = true) (hb : backB (l ++ [o]).toArray = true)
    (hB : (Region.noSelect (l ++ [o]).toArray && Region.lexFrom .any (l ++ [o]).toArray l.length 0 ((Array.replicate (l ++ [o]).toArray.size false).setIfInBounds l.length true)) = true) (hC : C w.drew)
    (h : wpQuiet P (l ++ [o]).toArray C (fun a' => ∀ w', C w' → Region.wanted o (yielded (l ++ [o]).toArray a'.tmps) = true ∧ ∀ K : Act → World → Prop, (∀ a w, Q' .normal a w → K a w) → o.wp P a' w' K Q') l a) : (Code.region id (l ++ [o]).toArray true).wp P Q' a w := by
  simp only [Bool.and_eq_true] at hB
  refine wp_region_any hm ?_
  have hs : (l ++ [o]).toArray.size = l.length + 1 := by simp
  rw [hs]
  refine wpAny_last (C := C) (o := o) (L := l.length) hs (by simp) hw hb (Q := fun a' => ∀ w', C w' → Region.wanted o (yielded (l ++ [o]).toArray a'.tmps) = true ∧ ∀ K : Act → World → Prop, (∀ a w, Q' .normal a w → K a w) → o.wp P a' w' K Q') (fun a w hC h => h w hC) _ _ _ _ (by simp) (by simp [Array.getD]) hC ?_
  have := lex_part (C := C) (md := .any) hB.1 l 0 ((Array.replicate (l ++ [o]).toArray.size false).setIfInBounds l.length true) a (fun j hj => ?_) hB.2 h
  · rw [hs] at this
    exact this
  · rw [Nat.zero_add]
    simp [List.getElem?_append_left hj]
end

/-- The same over a family of worlds, the operations written out. -/
theorem region_last {P : Program} {ι : Type} (F : ι → World) {id : Nat} {Q' : Exit → Act → World → Prop} {a : Act} {w : World} {l : List Oper} {o : Oper} (ho : l.getLast? = some o) (hm : P.follows .mixedOrders = true) (hw : waitsB .any o l.dropLast.length = true) (hb : backB l.toArray = true)
    (hB : (Region.noSelect l.toArray && Region.lexFrom .any l.toArray l.dropLast.length 0 ((Array.replicate l.toArray.size false).setIfInBounds l.dropLast.length true)) = true) (hC : ∃ n, w.drew = F n)
    (h : wpQuiet P l.toArray (fun w' => ∃ n, w' = F n) (fun a' => ∀ w', (∃ n, w' = F n) → Region.wanted o (yielded l.toArray a'.tmps) = true ∧ ∀ K : Act → World → Prop, (∀ a w, Q' .normal a w → K a w) → o.wp P a' w' K Q') l.dropLast a) : (Code.region id l.toArray true).wp P Q' a w := by
  have e : l.dropLast ++ [o] = l := by
    have hne : l ≠ [] := by
      rintro rfl
      simp at ho
    rw [List.getLast?_eq_some_getLast hne] at ho
    have := List.dropLast_concat_getLast hne
    rw [Option.some.inj ho] at this
    exact this
  have key := wp_region_last (P := P) (C := fun w' => ∃ n, w' = F n) (o := o) (l := l.dropLast) (id := id) (Q' := Q') (a := a) (w := w) hm hw
  rw [e] at key
  exact key hb hB hC h

end Go.Proofs.Ytjpcojabdjldbaa
