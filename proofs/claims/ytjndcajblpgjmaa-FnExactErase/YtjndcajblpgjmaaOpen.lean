/-
  A grammar that came in: its lists, opened.
-/
import Derived.Test.YtjndcajblpgjmaaSize
import Derived.WalkKit
import Derived.ProofKit
import Derived.OpenShut
import Derived.Deep.Slices
import Derived.Deep.Strs
namespace Go.Proofs.Ytjndcajblpgjmaa
open Go.ChangeShapes Go.WideShapes Go.ChangeAt Go.RowKit Go.Deep
open M (OpD NodeD Gr)
set_option linter.unusedVariables false

def Any : Nat → Prop := fun _ => True

theorem cells3 : Try.prog.cellsOf 3 = 1 := by kernel_rfl
theorem cells4 : Try.prog.cellsOf 4 = 1 := by kernel_rfl
theorem cells5 : Try.prog.cellsOf 5 = 1 := by kernel_rfl
theorem cells22 : Try.prog.cellsOf 22 = 1 := by kernel_rfl
theorem cells57 : Try.prog.cellsOf 57 = 1 := by kernel_rfl
theorem cells148 : Try.prog.cellsOf 148 = 1 := by kernel_rfl
theorem cells27 : Try.prog.cellsOf 27 = 1 := by kernel_rfl
theorem cells28 : Try.prog.cellsOf 28 = 1 := by kernel_rfl
theorem cells246 : Try.prog.cellsOf 246 = 3 := by kernel_rfl
theorem cells150 : Try.prog.cellsOf 150 = 2 := by kernel_rfl
theorem cells153 : Try.prog.cellsOf 153 = 3 := by kernel_rfl
theorem cells30 : Try.prog.cellsOf 30 = 2 := by kernel_rfl

theorem list2 {l : List Value} (h : l.length = 2) : ∃ a b, l = [a, b] := by
  match l, h with
  | [a, b], _ => exact ⟨a, b, rfl⟩
theorem list3 {l : List Value} (h : l.length = 3) : ∃ a b c, l = [a, b, c] := by
  match l, h with
  | [a, b, c], _ => exact ⟨a, b, c, rfl⟩

theorem add_at (b off i : Nat) : (⟨b, off, none⟩ : Addr).add i = ⟨b, off + i, none⟩ := by
  by_cases h0 : i = 0
  · subst h0; simp [Addr.add]
  · simp [Addr.add, h0]

section
variable {H : Type} {enc : TypeId × Value → H} {w : World} {base : Nat} {spare : Nat → Bool} {held : Bool}

theorem arg_ints {t e : TypeId} {k : IntKind} {fuel : Nat} {cs : List Value} {x : DataW H × List MemPlace} (ht : Try.prog.underlying t = some (.slice e)) (he : Try.prog.underlying e = some (.int k)) (hc : Try.prog.cellsOf e = 1)
    (h : DataW.trod enc Try.prog w base spare held fuel t cs = some x) :
    ∃ a n c S, cs = [.slice a n c] ∧ Ints Any k w a n S ∧ n ≤ 9223372036854775807 ∧ ∀ i, i < n → (Lit.int k (S i)).wf = true := by
  rcases open_ints ht he hc h with ⟨rfl, _⟩ | ⟨a, len, cap, zs, rfl, _, hl, hm, hz, _, hcell, hwf⟩
  · exact ⟨none, 0, 0, fun _ => 0, rfl, .inl rfl, by omega, fun i hi => by omega⟩
  · have hle : len ≤ zs.length := by rw [hz]; split <;> omega
    have hmx : len ≤ 9223372036854775807 := by have := hm; unfold maxLen at this; omega
    refine ⟨some a, len, cap, fun i => zs.getD i 0, rfl, ?_, hmx, fun i hi => ?_⟩
    · by_cases h0 : len = 0
      · exact .inl h0
      · obtain ⟨b, off, spot⟩ := a
        have hc0 := hcell 0 (by omega)
        have hspot : spot = none := by simpa [Addr.add] using World.cell?_spot hc0
        subst hspot
        refine .inr ⟨b, off, rfl, trivial, fun i hi => ?_⟩
        have := hcell i (by omega)
        rwa [add_at] at this
    · have hi' : i < zs.length := by omega
      have : zs.getD i 0 ∈ zs := by
        rw [List.getD_eq_getElem?_getD, List.getElem?_eq_getElem hi']
        exact List.getElem_mem hi'
      exact hwf _ this

/-- A list of structs, opened. -/
theorem arg_list {α : Type} [Inhabited α] {t e : TypeId} {sz : Nat} {fuel : Nat} {cs : List Value} {x : DataW H × List MemPlace} (ht : Try.prog.underlying t = some (.slice e)) (hsz : Try.prog.cellsOf e = sz) (hp : 0 < sz) (C : Nat → Nat → α → Prop)
    (hel : ∀ (f : Nat) (cs' : List Value) (y : DataW H × List MemPlace) (b o : Nat), DataW.trod enc Try.prog w base spare held f e cs' = some y → cs'.length = sz → (∀ j, j < sz → w.cell? ⟨b, o + j, none⟩ = cs'[j]?) → ∃ d, C b o d)
    (h : DataW.trod enc Try.prog w base spare held fuel t cs = some x) :
    ∃ a n c, ∃ R : Nat → α, cs = [.slice a n c] ∧ n ≤ 9223372036854775807 ∧ (n = 0 ∨ ∃ b off, a = some ⟨b, off, none⟩ ∧ ∀ i, i < n → C b (off + i * sz) (R i)) := by
  rcases open_slice ht h with ⟨rfl, _⟩ | ⟨a, len, cap, m, n, D, Pl, rfl, _, hl, hm, hmm, _, hx⟩
  · exact ⟨none, 0, 0, fun _ => default, rfl, by omega, .inl rfl⟩
  · have hle : len ≤ m := by rw [hmm]; split <;> omega
    have hmx : len ≤ 9223372036854775807 := by have := hm; unfold maxLen at this; omega
    by_cases h0 : len = 0
    · exact ⟨some a, len, cap, fun _ => default, rfl, hmx, .inl h0⟩
    · obtain ⟨b, off, spot⟩ := a
      rw [hsz] at hx
      obtain ⟨cs0, hc0, _⟩ := hx 0 (by omega)
      obtain ⟨_, hlen0, hcell0⟩ := World.cells?_some hc0
      have hs0 := hcell0 0 hp
      have hspot : spot = none := by
        cases hh : cs0[0]? with
        | none => rw [List.getElem?_eq_none_iff] at hh; omega
        | some v =>
          rw [hh] at hs0
          simpa [Addr.add] using World.cell?_spot hs0
      subst hspot
      obtain ⟨R, hR⟩ := choose_lt (n := len) (p := fun i d => C b (off + i * sz) d) (fun i hi => by
        obtain ⟨cs', hc', hd'⟩ := hx i (by omega)
        obtain ⟨_, hlen', hcell'⟩ := World.cells?_some hc'
        refine hel n cs' _ b (off + i * sz) hd' hlen' (fun j hj => ?_)
        have := hcell' j hj
        rwa [add_at, add_at] at this)
      exact ⟨_, len, cap, R, rfl, hmx, .inr ⟨b, off, rfl, hR⟩⟩

theorem arg_op {f : Nat} {cs : List Value} {y : DataW H × List MemPlace} {b o : Nat} (h : DataW.trod enc Try.prog w base spare held f 246 cs = some y) (hl : cs.length = 3) (hc : ∀ j, j < 3 → w.cell? ⟨b, o + j, none⟩ = cs[j]?) :
    ∃ d : OpD, OpC Any w b o d ∧ d.sl ≤ 9223372036854775807 := by
  obtain ⟨y0, y1, y2, n, _, _, h0, h1, h2⟩ := trod_struct3 Try.underlying246 h
  obtain ⟨v0, v1, v2, rfl⟩ := list3 hl
  simp only [cells3, cells57, List.drop_zero, List.take_succ_cons, List.take_zero, List.drop_succ_cons] at h0 h1 h2
  obtain ⟨k, e0, _, _⟩ := DataW.trod_int Try.underlying3 h0
  obtain ⟨a, m, c, S, e1, hS, hm, _⟩ := arg_ints Try.underlying57 Try.underlying3 cells3 h1
  obtain ⟨g, e2, _, _⟩ := DataW.trod_int Try.underlying3 h2
  simp only [List.cons.injEq, and_true] at e0 e1 e2
  subst e0 e1 e2
  have c0 := hc 0 (by omega)
  have c1 := hc 1 (by omega)
  have c2 := hc 2 (by omega)
  exact ⟨⟨k, m, S, g⟩, ⟨by simpa using c0, ⟨a, c, by simpa using c1, hS⟩, by simpa using c2⟩, hm⟩

theorem arg_ops {f : Nat} {cs : List Value} {y : DataW H × List MemPlace} (h : DataW.trod enc Try.prog w base spare held f 148 cs = some y) :
    ∃ a n c, ∃ B : Nat → OpD, cs = [.slice a n c] ∧ OpsA Any w a n B ∧ n ≤ 9223372036854775807 ∧ ∀ i, i < n → (B i).sl ≤ 9223372036854775807 := by
  obtain ⟨a, n, c, R, e, hn, hR⟩ := arg_list Try.underlying148 cells246 (by omega) (fun b o (d : OpD) => OpC Any w b o d ∧ d.sl ≤ 9223372036854775807) (fun f cs' y b o h hl hc => arg_op h hl hc) h
  refine ⟨a, n, c, R, e, ?_, hn, fun i hi => ?_⟩
  · rcases hR with h0 | ⟨b, off, e, hR⟩
    · exact .inl h0
    · exact .inr ⟨b, off, e, trivial, fun i hi => (hR i hi).1⟩
  · rcases hR with h0 | ⟨b, off, e, hR⟩
    · omega
    · exact (hR i hi).2

theorem byt_of {n : Nat} {S : Nat → Int} (h : ∀ i, i < n → (Lit.int .u8 (S i)).wf = true) : Byt n S := fun i hi => bounds_u8 (h i hi)

theorem arg_rule {f : Nat} {cs : List Value} {y : DataW H × List MemPlace} {b o : Nat} (h : DataW.trod enc Try.prog w base spare held f 150 cs = some y) (hl : cs.length = 2) (hc : ∀ j, j < 2 → w.cell? ⟨b, o + j, none⟩ = cs[j]?) :
    ∃ d : NodeD, RuleC Any w b o d ∧ BigN d := by
  obtain ⟨y0, y1, n, _, _, h0, h1⟩ := trod_struct2 Try.underlying150 h
  obtain ⟨v0, v1, rfl⟩ := list2 hl
  simp only [cells22, cells148, List.drop_zero, List.take_succ_cons, List.take_zero, List.drop_succ_cons] at h0 h1
  obtain ⟨a, m, c, S, e0, hS, hm, hw⟩ := arg_ints Try.underlying22 Try.underlying5 cells5 h0
  obtain ⟨a', m', c', B, e1, hB, hm', hs'⟩ := arg_ops h1
  simp only [List.cons.injEq, and_true] at e0 e1
  subst e0 e1
  have c0 := hc 0 (by omega)
  have c1 := hc 1 (by omega)
  exact ⟨⟨m, S, true, m', B⟩, ⟨⟨a, c, by simpa using c0, hS⟩, ⟨a', c', by simpa using c1, hB⟩⟩, ⟨hm, byt_of hw, hm', hs'⟩⟩

theorem arg_label {f : Nat} {cs : List Value} {y : DataW H × List MemPlace} {b o : Nat} (h : DataW.trod enc Try.prog w base spare held f 153 cs = some y) (hl : cs.length = 3) (hc : ∀ j, j < 3 → w.cell? ⟨b, o + j, none⟩ = cs[j]?) :
    ∃ d : NodeD, LabC Any w b o d ∧ BigN d := by
  obtain ⟨y0, y1, y2, n, _, _, h0, h1, h2⟩ := trod_struct3 Try.underlying153 h
  obtain ⟨v0, v1, v2, rfl⟩ := list3 hl
  simp only [cells22, cells4, cells148, List.drop_zero, List.take_succ_cons, List.take_zero, List.drop_succ_cons] at h0 h1 h2
  obtain ⟨a, m, c, S, e0, hS, hm, hw⟩ := arg_ints Try.underlying22 Try.underlying5 cells5 h0
  obtain ⟨bb, e1, _⟩ := DataW.trod_bool Try.underlying4 h1
  obtain ⟨a', m', c', B, e2, hB, hm', hs'⟩ := arg_ops h2
  simp only [List.cons.injEq, and_true] at e0 e1 e2
  subst e0 e1 e2
  have c0 := hc 0 (by omega)
  have c1 := hc 1 (by omega)
  have c2 := hc 2 (by omega)
  exact ⟨⟨m, S, bb, m', B⟩, ⟨⟨a, c, by simpa using c0, hS⟩, by simpa using c1, ⟨a', c', by simpa using c2, hB⟩⟩, ⟨hm, byt_of hw, hm', hs'⟩⟩

theorem arg_grammar {f : Nat} {cs : List Value} {y : DataW H × List MemPlace} (h : DataW.trod enc Try.prog w base spare held f 30 cs = some y) :
    ∃ ra rc la lc, ∃ g : Gr, cs = [.slice ra g.nr rc, .slice la g.nb lc] ∧ GramA Any w ra la g ∧ BigG g := by
  obtain ⟨y0, y1, n, _, hl, h0, h1⟩ := trod_struct2 Try.underlying30 h
  rw [cells30] at hl
  obtain ⟨v0, v1, rfl⟩ := list2 hl
  simp only [cells27, cells28, List.drop_zero, List.take_succ_cons, List.take_zero, List.drop_succ_cons] at h0 h1
  obtain ⟨ra, nr, rc, R, e0, hn0, hR⟩ := arg_list Try.underlying27 cells150 (by omega) (fun b o (d : NodeD) => RuleC Any w b o d ∧ BigN d) (fun f cs' y b o h hl hc => arg_rule h hl hc) h0
  obtain ⟨la, nb, lc, L, e1, hn1, hL⟩ := arg_list Try.underlying28 cells153 (by omega) (fun b o (d : NodeD) => LabC Any w b o d ∧ BigN d) (fun f cs' y b o h hl hc => arg_label h hl hc) h1
  simp only [List.cons.injEq, and_true] at e0 e1
  subst e0 e1
  refine ⟨ra, rc, la, lc, ⟨nr, R, nb, L⟩, rfl, ⟨?_, ?_⟩, ⟨hn0, hn1, fun i hi => ?_, fun i hi => ?_⟩⟩
  · rcases hR with h0 | ⟨b, off, e, hR⟩
    · exact .inl h0
    · exact .inr ⟨b, off, e, trivial, fun i hi => (hR i hi).1⟩
  · rcases hL with h0 | ⟨b, off, e, hL⟩
    · exact .inl h0
    · exact .inr ⟨b, off, e, trivial, fun i hi => (hL i hi).1⟩
  · rcases hR with h0 | ⟨b, off, e, hR⟩
    · simp only at hi; omega
    · exact (hR i hi).2
  · rcases hL with h0 | ⟨b, off, e, hL⟩
    · simp only at hi; omega
    · exact (hL i hi).2
end

end Go.Proofs.Ytjndcajblpgjmaa
