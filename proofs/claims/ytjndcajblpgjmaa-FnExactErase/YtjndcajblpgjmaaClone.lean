/-
  Walks: clones.
-/
import Derived.Test.YtjndcajblpgjmaaAppC
namespace Go.Proofs.Ytjndcajblpgjmaa
open Go.RowKit
set_option linter.unusedVariables false

def intVs (k : IntKind) (S : Nat → Int) (n : Nat) : List Value := (List.range n).map fun i => .int k (S i)
theorem intVs_len (k : IntKind) (S : Nat → Int) (n : Nat) : (intVs k S n).length = n := by simp [intVs]
theorem intVs_get {k : IntKind} {S : Nat → Int} {n i : Nat} (h : i < n) : (intVs k S n)[i]? = some (.int k (S i)) := by simp [intVs, h]
theorem intVs_one (k : IntKind) (S : Nat → Int) (n : Nat) : ∀ u ∈ intVs k S n, u.oneCell' = true := by
  intro u hu
  obtain ⟨i, _, rfl⟩ := List.mem_map.1 hu
  rfl

theorem Ints.src {Q : Nat → Prop} {k : IntKind} {w : World} {x : Addr} {n c : Nat} {S : Nat → Int} {tx e : TypeId} (hk : Try.prog.underlying tx = some (.slice e)) (h : Ints Q k w (some x) n S) : Src Try.prog 1 tx (.slice (some x) n c) n (intVs k S n) w := by
  refine Src.ofSlice (P := Try.prog) w hk x n c (intVs k S n) (by rw [intVs_len, Nat.mul_one]) (fun j u hu => ?_) (intVs_one k S n)
  have hj : j < n := by have := (List.getElem?_eq_some_iff.1 hu).1; rwa [intVs_len] at this
  rw [intVs_get hj] at hu
  cases hu
  rcases h with h0 | ⟨b, off, e, _, h⟩
  · omega
  · cases e
    have e' : (⟨b, off, none⟩ : Addr).add j = ⟨b, off + j, none⟩ := by
      by_cases h0 : j = 0
      · subst h0; simp [Addr.add]
      · simp [Addr.add, h0]
    rw [e']
    exact h j hj

theorem OwnC.ints {Q : Nat → Prop} {k : IntKind} {w : World} {v : Value} {n : Nat} {S : Nat → Int} (h : OwnC Q w v 1 n (intVs k S n)) : ∃ a c, v = .slice a n c ∧ Ints Q k w a n S := by
  rcases h with ⟨rfl, rfl, _⟩ | ⟨g, cap, rfl, hq, hl, _, hc, _⟩
  · exact ⟨none, 0, rfl, .inl rfl⟩
  · refine ⟨_, _, rfl, .inr ⟨g, 0, rfl, hq, fun i hi => ?_⟩⟩
    rw [Nat.zero_add, hc i (by rw [intVs_len]; exact hi), intVs_get hi]

/-- The world behind an append onto a block that is new. -/
theorem Grew.below {Q : Nat → Prop} {w0 w w' : World} (h : Grew Q w w') (hb : Below w0.heap.size w0 w) (hq : ∀ b, b < w0.heap.size → ¬ Q b) : Below w0.heap.size w0 w' :=
  ⟨h.os.trans hb.os, h.tape.trans hb.tape, h.output.trans hb.output, Nat.le_trans hb.size h.size, fun b hbb => (h.block b (Nat.lt_of_lt_of_le hbb hb.size) (hq b hbb)).trans (hb.block b hbb)⟩

theorem own_empty (w : World) (g sz : Nat) : OwnC (fun b => b = g) w (.slice (some ⟨g, 0, none⟩) 0 0) sz 0 [] :=
  .inr ⟨g, 0, rfl, rfl, by simp, Nat.le_refl _, fun j hj => absurd hj (Nat.not_lt_zero _), fun j hj => by simp at hj⟩
theorem not_nil {x : Addr} {n c m : Nat} (h : Value.slice (some x) n c = .slice none 0 0) : 0 < m := by injection h with h; cases h

theorem clone_end {k : IntKind} {t : TypeId} {w W : World} {v' : Value} {n : Nat} {S : Nat → Int} (h : OwnC (fun b => b = w.heap.size ∨ (w.alloc (.cells #[] t)).heap.size ≤ b) W v' 1 (0 + n) ([] ++ intVs k S n)) (hg : Grew (fun b => b = w.heap.size) (w.alloc (.cells #[] t)) W) (hs : W.heap.size ≤ (w.alloc (.cells #[] t)).heap.size + 1) :
    CpS (fun w' a => Ints (New w w') k w' a n S) n w (.returned v') W := by
  rw [Nat.zero_add, List.nil_append] at h
  have hb := hg.below (bel1 w _) (fun b hb e => by omega)
  simp only [World.size_alloc] at h hs
  have hsz := hg.size
  simp only [World.size_alloc] at hsz
  refine ⟨?_, hb, (soft1 w _ t).grew hg⟩
  obtain ⟨a, c, e, hI⟩ := h.ints
  by_cases h0 : n = 0
  · exact ⟨a, c, by rw [e], .inl h0⟩
  · rcases hI with h1 | ⟨b, off, ea, hq, hI⟩
    · exact absurd h1 h0
    · exact ⟨a, c, by rw [e], .inr ⟨b, off, ea, ⟨by omega, lt_of_cell (hI 0 (by omega))⟩, hI⟩⟩

set_option maxHeartbeats 1000000 in
theorem sliceClone_any (Q : Nat → Prop) (a : Option Addr) (n c : Nat) (S : Nat → Int) (w : World) (hS : Ints Q .i64 w a n S) (hn : n ≤ 1048576) :
    Calls Try.prog 130 #[.slice a n c] w (CpS (fun w' a => Ints (New w w') .i64 w' a n S) n w) := by
  have q57 : ∀ (w : World) (a : Option Addr) (n c n' c' : Nat), (binOp .eql 57 (.slice a n c) (.slice none n' c')).run Try.prog w = .ok (.bool a.isNone) w := fun w a n c n' c' => Lib.run_eql_slice_nil w _ _ a n c n' c' Try.underlying57
  cases a with
  | none =>
    have h0 : n = 0 := by
      rcases hS with h | ⟨_, _, e, _⟩
      · exact h
      · cases e
    subst h0
    go_enter Try.func130, Try.ntmps130
    go_wp2
    go_ret
    exact ⟨⟨none, 0, rfl, .inl rfl⟩, Below.refl _ _, Soft.refl _⟩
  | some x =>
    have HS : Hid (Ints Q .i64 w (some x) n S) := hS
    clear hS
    go_enter Try.func130, Try.ntmps130
    go_wp2_with (at_builtin; refine appC rfl _ _ 57 57 rfl rfl rfl elem57 (own_empty _ w.heap.size 1) (Ints.src Try.underlying57 (HS.out.later (bel1 w _))) (by omega) not_nil ?_; intro v' W hown hgrew hsz; have HO : Hid _ := hown; have HG : Hid _ := hgrew; have HSZ : Hid _ := hsz; clear hown hgrew hsz)
    go_ret
    exact clone_end HO.out HG.out HSZ.out

set_option maxHeartbeats 1000000 in
theorem bytesClone_any (Q : Nat → Prop) (a : Option Addr) (n c : Nat) (S : Nat → Int) (w : World) (hS : Ints Q .u8 w a n S) (hn : n ≤ 1048576) :
    Calls Try.prog 70 #[.slice a n c] w (CpS (fun w' a => Ints (New w w') .u8 w' a n S) n w) := by
  have q22 : ∀ (w : World) (a : Option Addr) (n c n' c' : Nat), (binOp .eql 22 (.slice a n c) (.slice none n' c')).run Try.prog w = .ok (.bool a.isNone) w := fun w a n c n' c' => Lib.run_eql_slice_nil w _ _ a n c n' c' Try.underlying22
  cases a with
  | none =>
    have h0 : n = 0 := by
      rcases hS with h | ⟨_, _, e, _⟩
      · exact h
      · cases e
    subst h0
    go_enter Try.func70, Try.ntmps70
    go_wp2
    go_ret
    exact ⟨⟨none, 0, rfl, .inl rfl⟩, Below.refl _ _, Soft.refl _⟩
  | some x =>
    have HS : Hid (Ints Q .u8 w (some x) n S) := hS
    clear hS
    go_enter Try.func70, Try.ntmps70
    go_wp2_with (at_builtin; refine appC rfl _ _ 22 22 rfl rfl rfl elem22 (own_empty _ w.heap.size 1) (Ints.src Try.underlying22 (HS.out.later (bel1 w _))) (by omega) not_nil ?_; intro v' W hown hgrew hsz; have HO : Hid _ := hown; have HG : Hid _ := hgrew; have HSZ : Hid _ := hsz; clear hown hgrew hsz)
    go_ret
    exact clone_end HO.out HG.out HSZ.out

end Go.Proofs.Ytjndcajblpgjmaa
