/-
  Grammars in memory: lists as a length, a value and what the cells hold.
-/
import Derived.Test.YtjndcajblpgjmaaChecked
import Derived.Test.YtjndcajblpgjmaaPure
import Derived.WalkKit
import Derived.WalkSpells
import Derived.WalkLawsBesides
import Derived.Outline
import Derived.Deep.OwnRows
import Derived.Below
import Derived.Deep.QuietTactic
import Derived.BigQuiet
namespace Go.Proofs.Ytjndcajblpgjmaa
open Go.RowKit
open M (OpD NodeD Gr)
set_option linter.unusedVariables false

theorem ret_bool {a b : Bool} (h : a = b) : Ending.returned (.bool a) = .returned (.bool b) := by rw [h]
theorem ret_int {k : IntKind} {a b : Int} (h : a = b) : Ending.returned (.int k a) = .returned (.int k b) := by rw [h]

theorem lt_of_cell {w : World} {a : Addr} {v : Value} (h : w.cell? a = some v) : a.block < w.heap.size := by
  unfold World.cell? at h
  cases ho : w.heap[a.block]? with
  | none => simp [ho] at h
  | some o => exact (Array.getElem?_eq_some_iff.1 ho).1

theorem cell_on {w w' : World} {a : Addr} {v : Value} (h : w.cell? a = some v) (k : Below w.heap.size w w') : w'.cell? a = some v :=
  (k.cell (p := a) (lt_of_cell h)).trans h

/-- A slice of n numbers of one kind: its blocks are among Q. -/
def Ints (Q : Nat → Prop) (k : IntKind) (w : World) (a : Option Addr) (n : Nat) (S : Nat → Int) : Prop :=
  n = 0 ∨ ∃ b off, a = some ⟨b, off, none⟩ ∧ Q b ∧ ∀ i, i < n → w.cell? ⟨b, off + i, none⟩ = some (.int k (S i))

/-- An element in three cells from o on. -/
structure OpC (Q : Nat → Prop) (w : World) (b o : Nat) (d : OpD) : Prop where
  kind : w.cell? ⟨b, o, none⟩ = some (.int .i64 d.kind)
  set : ∃ a c, w.cell? ⟨b, o + 1, none⟩ = some (.slice a d.sl c) ∧ Ints Q .i64 w a d.sl d.set
  arg : w.cell? ⟨b, o + 2, none⟩ = some (.int .i64 d.arg)

def OpsA (Q : Nat → Prop) (w : World) (a : Option Addr) (n : Nat) (B : Nat → OpD) : Prop :=
  n = 0 ∨ ∃ b off, a = some ⟨b, off, none⟩ ∧ Q b ∧ ∀ i, i < n → OpC Q w b (off + i * 3) (B i)

structure RuleC (Q : Nat → Prop) (w : World) (b o : Nat) (d : NodeD) : Prop where
  name : ∃ a c, w.cell? ⟨b, o, none⟩ = some (.slice a d.nl c) ∧ Ints Q .u8 w a d.nl d.name
  body : ∃ a c, w.cell? ⟨b, o + 1, none⟩ = some (.slice a d.bl c) ∧ OpsA Q w a d.bl d.body

structure LabC (Q : Nat → Prop) (w : World) (b o : Nat) (d : NodeD) : Prop where
  name : ∃ a c, w.cell? ⟨b, o, none⟩ = some (.slice a d.nl c) ∧ Ints Q .u8 w a d.nl d.name
  has : w.cell? ⟨b, o + 1, none⟩ = some (.bool d.has)
  body : ∃ a c, w.cell? ⟨b, o + 2, none⟩ = some (.slice a d.bl c) ∧ OpsA Q w a d.bl d.body

def RulesA (Q : Nat → Prop) (w : World) (a : Option Addr) (n : Nat) (R : Nat → NodeD) : Prop :=
  n = 0 ∨ ∃ b off, a = some ⟨b, off, none⟩ ∧ Q b ∧ ∀ i, i < n → RuleC Q w b (off + i * 2) (R i)
def LabsA (Q : Nat → Prop) (w : World) (a : Option Addr) (n : Nat) (R : Nat → NodeD) : Prop :=
  n = 0 ∨ ∃ b off, a = some ⟨b, off, none⟩ ∧ Q b ∧ ∀ i, i < n → LabC Q w b (off + i * 3) (R i)

/-! ### A later world, a wider set of blocks -/
/-- All blocks of Q lie in w' as in w. -/
def Stay (Q : Nat → Prop) (w w' : World) : Prop := ∀ b, Q b → w'.heap[b]? = w.heap[b]?

theorem Stay.cell {Q : Nat → Prop} {w w' : World} (h : Stay Q w w') {b o : Nat} (hq : Q b) : w'.cell? ⟨b, o, none⟩ = w.cell? ⟨b, o, none⟩ :=
  World.cell?_of_block (w := w) (h b hq)
theorem Stay.trans {Q : Nat → Prop} {w w' w'' : World} (h : Stay Q w w') (k : Stay Q w' w'') : Stay Q w w'' := fun b hb => (k b hb).trans (h b hb)
theorem Below.stay {B : Nat} {w w' : World} (h : Below B w w') : Stay (fun b => b < B) w w' := fun b hb => h.block b hb
theorem Stay.mono {Q Q' : Nat → Prop} {w w' : World} (h : Stay Q w w') (hq : ∀ b, Q' b → Q b) : Stay Q' w w' := fun b hb => h b (hq b hb)

variable {Q Q' : Nat → Prop} {w w' : World}

theorem Ints.on {k : IntKind} {a : Option Addr} {n : Nat} {S : Nat → Int} (h : Ints Q k w a n S) (t : Stay Q w w') : Ints Q k w' a n S := by
  rcases h with h | ⟨b, off, e, hq, h⟩
  · exact .inl h
  · exact .inr ⟨b, off, e, hq, fun i hi => (t.cell hq).trans (h i hi)⟩
theorem Ints.wide {k : IntKind} {a : Option Addr} {n : Nat} {S : Nat → Int} (h : Ints Q k w a n S) (t : ∀ b, Q b → Q' b) : Ints Q' k w a n S := by
  rcases h with h | ⟨b, off, e, hq, h⟩
  · exact .inl h
  · exact .inr ⟨b, off, e, t b hq, h⟩
theorem OpC.on {b o : Nat} {d : OpD} (h : OpC Q w b o d) (hq : Q b) (t : Stay Q w w') : OpC Q w' b o d := by
  obtain ⟨h1, ⟨a, c, h2, h3⟩, h4⟩ := h
  exact ⟨(t.cell hq).trans h1, ⟨a, c, (t.cell hq).trans h2, h3.on t⟩, (t.cell hq).trans h4⟩
theorem OpC.wide {b o : Nat} {d : OpD} (h : OpC Q w b o d) (t : ∀ b, Q b → Q' b) : OpC Q' w b o d := by
  obtain ⟨h1, ⟨a, c, h2, h3⟩, h4⟩ := h
  exact ⟨h1, ⟨a, c, h2, h3.wide t⟩, h4⟩
theorem OpsA.on {a : Option Addr} {n : Nat} {B : Nat → OpD} (h : OpsA Q w a n B) (t : Stay Q w w') : OpsA Q w' a n B := by
  rcases h with h | ⟨b, off, e, hq, h⟩
  · exact .inl h
  · exact .inr ⟨b, off, e, hq, fun i hi => (h i hi).on hq t⟩
theorem OpsA.wide {a : Option Addr} {n : Nat} {B : Nat → OpD} (h : OpsA Q w a n B) (t : ∀ b, Q b → Q' b) : OpsA Q' w a n B := by
  rcases h with h | ⟨b, off, e, hq, h⟩
  · exact .inl h
  · exact .inr ⟨b, off, e, t b hq, fun i hi => (h i hi).wide t⟩
theorem RuleC.on {b o : Nat} {d : NodeD} (h : RuleC Q w b o d) (hq : Q b) (t : Stay Q w w') : RuleC Q w' b o d := by
  obtain ⟨⟨a, c, h1, h2⟩, ⟨a', c', h3, h4⟩⟩ := h
  exact ⟨⟨a, c, (t.cell hq).trans h1, h2.on t⟩, ⟨a', c', (t.cell hq).trans h3, h4.on t⟩⟩
theorem RuleC.wide {b o : Nat} {d : NodeD} (h : RuleC Q w b o d) (t : ∀ b, Q b → Q' b) : RuleC Q' w b o d := by
  obtain ⟨⟨a, c, h1, h2⟩, ⟨a', c', h3, h4⟩⟩ := h
  exact ⟨⟨a, c, h1, h2.wide t⟩, ⟨a', c', h3, h4.wide t⟩⟩
theorem LabC.on {b o : Nat} {d : NodeD} (h : LabC Q w b o d) (hq : Q b) (t : Stay Q w w') : LabC Q w' b o d := by
  obtain ⟨⟨a, c, h1, h2⟩, h0, ⟨a', c', h3, h4⟩⟩ := h
  exact ⟨⟨a, c, (t.cell hq).trans h1, h2.on t⟩, (t.cell hq).trans h0, ⟨a', c', (t.cell hq).trans h3, h4.on t⟩⟩
theorem LabC.wide {b o : Nat} {d : NodeD} (h : LabC Q w b o d) (t : ∀ b, Q b → Q' b) : LabC Q' w b o d := by
  obtain ⟨⟨a, c, h1, h2⟩, h0, ⟨a', c', h3, h4⟩⟩ := h
  exact ⟨⟨a, c, h1, h2.wide t⟩, h0, ⟨a', c', h3, h4.wide t⟩⟩
theorem RulesA.on {a : Option Addr} {n : Nat} {R : Nat → NodeD} (h : RulesA Q w a n R) (t : Stay Q w w') : RulesA Q w' a n R := by
  rcases h with h | ⟨b, off, e, hq, h⟩
  · exact .inl h
  · exact .inr ⟨b, off, e, hq, fun i hi => (h i hi).on hq t⟩
theorem RulesA.wide {a : Option Addr} {n : Nat} {R : Nat → NodeD} (h : RulesA Q w a n R) (t : ∀ b, Q b → Q' b) : RulesA Q' w a n R := by
  rcases h with h | ⟨b, off, e, hq, h⟩
  · exact .inl h
  · exact .inr ⟨b, off, e, t b hq, fun i hi => (h i hi).wide t⟩
theorem LabsA.on {a : Option Addr} {n : Nat} {R : Nat → NodeD} (h : LabsA Q w a n R) (t : Stay Q w w') : LabsA Q w' a n R := by
  rcases h with h | ⟨b, off, e, hq, h⟩
  · exact .inl h
  · exact .inr ⟨b, off, e, hq, fun i hi => (h i hi).on hq t⟩
theorem LabsA.wide {a : Option Addr} {n : Nat} {R : Nat → NodeD} (h : LabsA Q w a n R) (t : ∀ b, Q b → Q' b) : LabsA Q' w a n R := by
  rcases h with h | ⟨b, off, e, hq, h⟩
  · exact .inl h
  · exact .inr ⟨b, off, e, t b hq, fun i hi => (h i hi).wide t⟩

/-! ### What has cells lies in the world: so it lies in every later one -/
theorem Ints.later {k : IntKind} {a : Option Addr} {n : Nat} {S : Nat → Int} (h : Ints Q k w a n S) (t : Below w.heap.size w w') : Ints Q k w' a n S := by
  rcases h with h | ⟨b, off, e, hq, h⟩
  · exact .inl h
  · exact .inr ⟨b, off, e, hq, fun i hi => cell_on (h i hi) t⟩
theorem OpC.later {b o : Nat} {d : OpD} (h : OpC Q w b o d) (t : Below w.heap.size w w') : OpC Q w' b o d := by
  obtain ⟨h1, ⟨a, c, h2, h3⟩, h4⟩ := h
  exact ⟨cell_on h1 t, ⟨a, c, cell_on h2 t, h3.later t⟩, cell_on h4 t⟩
theorem OpsA.later {a : Option Addr} {n : Nat} {B : Nat → OpD} (h : OpsA Q w a n B) (t : Below w.heap.size w w') : OpsA Q w' a n B := by
  rcases h with h | ⟨b, off, e, hq, h⟩
  · exact .inl h
  · exact .inr ⟨b, off, e, hq, fun i hi => (h i hi).later t⟩
theorem RuleC.later {b o : Nat} {d : NodeD} (h : RuleC Q w b o d) (t : Below w.heap.size w w') : RuleC Q w' b o d := by
  obtain ⟨⟨a, c, h1, h2⟩, ⟨a', c', h3, h4⟩⟩ := h
  exact ⟨⟨a, c, cell_on h1 t, h2.later t⟩, ⟨a', c', cell_on h3 t, h4.later t⟩⟩
theorem LabC.later {b o : Nat} {d : NodeD} (h : LabC Q w b o d) (t : Below w.heap.size w w') : LabC Q w' b o d := by
  obtain ⟨⟨a, c, h1, h2⟩, h0, ⟨a', c', h3, h4⟩⟩ := h
  exact ⟨⟨a, c, cell_on h1 t, h2.later t⟩, cell_on h0 t, ⟨a', c', cell_on h3 t, h4.later t⟩⟩
theorem RulesA.later {a : Option Addr} {n : Nat} {R : Nat → NodeD} (h : RulesA Q w a n R) (t : Below w.heap.size w w') : RulesA Q w' a n R := by
  rcases h with h | ⟨b, off, e, hq, h⟩
  · exact .inl h
  · exact .inr ⟨b, off, e, hq, fun i hi => (h i hi).later t⟩
theorem LabsA.later {a : Option Addr} {n : Nat} {R : Nat → NodeD} (h : LabsA Q w a n R) (t : Below w.heap.size w w') : LabsA Q w' a n R := by
  rcases h with h | ⟨b, off, e, hq, h⟩
  · exact .inl h
  · exact .inr ⟨b, off, e, hq, fun i hi => (h i hi).later t⟩

theorem bel1 (w : World) (o : Obj) : Below w.heap.size w (w.alloc o) := (Below.refl _ w).alloc (Nat.le_refl _) o
theorem bel2 (w : World) (o p : Obj) : Below w.heap.size w ((w.alloc o).alloc p) := (bel1 w o).alloc (by simp) p
theorem bel3 (w : World) (o p q : Obj) : Below w.heap.size w (((w.alloc o).alloc p).alloc q) := (bel2 w o p).alloc (by simp; omega) q
theorem bel_tr {a b c : World} (h : Below a.heap.size a b) (k : Below b.heap.size b c) : Below a.heap.size a c := h.trans (k.mono h.size)

/-- The blocks of a world. -/
def Of (w : World) : Nat → Prop := fun b => b < w.heap.size
theorem stay_of (h : Below w.heap.size w w') : Stay (Of w) w w' := fun b hb => h.block b hb

end Go.Proofs.Ytjndcajblpgjmaa
