import Derived.Test.YteoddjobpmmgeaaGreatChecked
import Derived.WalkKit
import Derived.WalkSpells
import Derived.WalkLawsBesides
import Derived.Outline
import Derived.Deep.OwnRows
import Derived.Below
import Derived.Deep.QuietTactic
import Derived.BigQuiet
import Derived.Laws.BytesArg
import Derived.Lib.Bytealg
import Derived.Lib.BytesEntry
set_option linter.unusedVariables false
set_option linter.unusedSimpArgs false
namespace Go.Proofs.YteoddjobpmmgeaaGreat
namespace M
structure OpD where
  kind : Int
  sl : Nat
  set : Nat → Int
  arg : Int
structure NodeD where
  nl : Nat
  name : Nat → Int
  has : Bool
  bl : Nat
  body : Nat → OpD
structure Gr where
  nr : Nat
  rule : Nat → NodeD
  nb : Nat
  lab : Nat → NodeD
instance : Inhabited OpD := ⟨⟨0, 0, fun _ => 0, 0⟩⟩
instance : Inhabited NodeD := ⟨⟨0, fun _ => 0, false, 0, fun _ => default⟩⟩
def CanAt (S : Nat → Int) (i : Nat) : Prop :=
  0 ≤ S i ∧ S i ≤ 255 ∧ (i % 2 = 1 → S (i - 1) ≤ S i) ∧ (0 < i ∧ i % 2 = 0 → S (i - 1) + 2 ≤ S i)
def Canon (m : Nat) (S : Nat → Int) : Prop := m % 2 = 0 ∧ ∀ i, i < m → CanAt S i
def least (S : Nat → Int) (k : Nat) : Int := if k = 0 then 0 else S (2 * k - 1) + 2
def Letter (c : Int) : Prop := (97 ≤ c ∧ c ≤ 122) ∨ (65 ≤ c ∧ c ≤ 90) ∨ c = 95
def Digit (c : Int) : Prop := 48 ≤ c ∧ c ≤ 57
def NameB (n : Nat) (T : Nat → Int) : Prop := (∀ i, i < n → Letter (T i) ∨ Digit (T i)) ∧ 0 < n ∧ Letter (T 0)
def NameOK (n : Nat) (T : Nat → Int) : Prop := n ≤ 32 ∧ NameB n T
def ar (k : Int) : Int := if k = 4 ∨ k = 5 then 2 else if k = 6 ∨ k = 7 then 1 else 0
theorem ar_bd (k : Int) : 0 ≤ ar k ∧ ar k ≤ 2 := by unfold ar; split <;> (try split) <;> omega
def dep (B : Nat → OpD) : Nat → Int
  | 0 => 0
  | i + 1 => dep B i + (1 - ar (B i).kind)
def need (B : Nat → OpD) (n : Nat) : Nat → Int
  | 0 => 1
  | j + 1 => need B n j + (ar (B (n - 1 - j)).kind - 1)
def Shape (n : Nat) (B : Nat → OpD) : Prop := (∀ i, i < n → ar (B i).kind ≤ dep B i) ∧ dep B n = 1
def ShapeS (n : Nat) (B : Nat → OpD) : Prop := (∀ j, j < n → need B n j ≠ 0) ∧ need B n n = 0
theorem need_dep (B : Nat → OpD) (n j : Nat) (hj : j ≤ n) : need B n j = 1 - dep B n + dep B (n - j) := by
  induction j with
  | zero => simp [need]
  | succ j ih =>
    rw [need, ih (by omega)]
    have e : n - j = (n - 1 - j) + 1 := by omega
    rw [show n - (j + 1) = n - 1 - j by omega, e, dep]
    omega
theorem shape_iff (n : Nat) (B : Nat → OpD) : ShapeS n B ↔ Shape n B := by
  constructor
  · rintro ⟨h1, h2⟩
    have e : dep B n = 1 := by
      have := need_dep B n n (Nat.le_refl _)
      rw [h2, Nat.sub_self, dep] at this
      omega
    -- the numbers behind each element are at least 1: from the end downwards
    have pos : ∀ j, j < n → 1 ≤ dep B (n - j) := by
      intro j hj
      induction j with
      | zero => rw [Nat.sub_zero]; omega
      | succ j ih =>
        have hp := ih (by omega)
        have hne := h1 (j + 1) hj
        rw [need_dep B n (j + 1) (by omega)] at hne
        have ee : n - j = (n - (j + 1)) + 1 := by omega
        rw [ee, dep] at hp
        have := ar_bd (B (n - (j + 1))).kind
        omega
    refine ⟨fun i hi => ?_, e⟩
    have := pos (n - (i + 1)) (by omega)
    rw [show n - (n - (i + 1)) = i + 1 by omega, dep] at this
    omega
  · rintro ⟨h1, h2⟩
    refine ⟨fun j hj => ?_, ?_⟩
    · rw [need_dep B n j (by omega), h2]
      have e : n - j = (n - 1 - j) + 1 := by omega
      have := h1 (n - 1 - j) (by omega)
      rw [e, dep]
      omega
    · rw [need_dep B n n (Nat.le_refl _), h2, Nat.sub_self, dep]; omega
theorem need_bd (B : Nat → OpD) (n j : Nat) (h : ∀ k, k < j → need B n k ≠ 0) : 0 ≤ need B n j ∧ need B n j ≤ j + 1 := by
  induction j with
  | zero => simp [need]
  | succ j ih =>
    have h1 := ih (fun k hk => h k (by omega))
    have h2 := h j (by omega)
    have := ar_bd (B (n - 1 - j)).kind
    rw [need]
    omega
def most (nr nb : Nat) (k : Int) : Int := if k = 3 then nb else if k = 2 then nr else 1
def ElemOK (nr nb : Nat) (o : OpD) : Prop :=
  0 ≤ o.kind ∧ o.kind ≤ 7 ∧ (o.kind = 1 → Canon o.sl o.set) ∧ (o.kind ≠ 1 → o.sl = 0) ∧ 0 ≤ o.arg ∧ o.arg < most nr nb o.kind
def BodyOK (nr nb n : Nat) (B : Nat → OpD) : Prop := (∀ i, i < n → ElemOK nr nb (B i)) ∧ Shape n B
def Throws (n : Nat) (B : Nat → OpD) (l : Nat) : Prop := ∃ i, i < n ∧ (B i).kind = 3 ∧ (B i).arg = l
def SameName (a b : NodeD) : Prop := a.nl = b.nl ∧ ∀ i, i < a.nl → a.name i = b.name i
def LessT (n : Nat) (S : Nat → Int) (m : Nat) (T : Nat → Int) : Prop :=
  ∃ k, (∀ i, i < k → S i = T i) ∧ k ≤ n ∧ k ≤ m ∧ ((k < n ∧ k < m ∧ S k < T k) ∨ (k = n ∧ k < m))
def LessName (a b : NodeD) : Prop := LessT a.nl a.name b.nl b.name
def sum (f : Nat → Nat) : Nat → Nat
  | 0 => 0
  | n + 1 => sum f n + f n
theorem sum_le (f : Nat → Nat) {i n : Nat} (h : i ≤ n) : sum f i ≤ sum f n := by
  induction n with
  | zero => have : i = 0 := by omega
            subst this; exact Nat.le_refl _
  | succ n ih =>
    by_cases e : i = n + 1
    · subst e; exact Nat.le_refl _
    · rw [sum]; have := ih (by omega); omega
def ops (g : Gr) : Nat := sum (fun i => (g.rule i).bl) g.nr + sum (fun i => (g.lab i).bl) g.nb
structure Valid (g : Gr) : Prop where
  r1 : 0 < g.nr
  r2 : g.nr ≤ 100
  l2 : g.nb ≤ 100
  rn : ∀ i, i < g.nr → NameOK (g.rule i).nl (g.rule i).name
  ru : ∀ i, i < g.nr → ∀ j, j < i → ¬ SameName (g.rule i) (g.rule j)
  ln : ∀ i, i < g.nb → NameOK (g.lab i).nl (g.lab i).name
  la : ∀ i, i < g.nb → 0 < i → LessName (g.lab (i - 1)) (g.lab i)
  rb : ∀ i, i < g.nr → BodyOK g.nr g.nb (g.rule i).bl (g.rule i).body
  lb : ∀ i, i < g.nb → (g.lab i).has = true → BodyOK g.nr g.nb (g.lab i).bl (g.lab i).body
  lz : ∀ i, i < g.nb → (g.lab i).has = false → (g.lab i).bl = 0
  lt : ∀ i, i < g.nb → (g.lab i).has = false → (∃ j, j < g.nr ∧ Throws (g.rule j).bl (g.rule j).body i) ∨ ∃ j, j < g.nb ∧ Throws (g.lab j).bl (g.lab j).body i
  ol : ops g ≤ 2000
end M
section
open Go.RowKit
open M (OpD NodeD Gr)
theorem ret_int {k : IntKind} {a b : Int} (h : a = b) : Ending.returned (.int k a) = .returned (.int k b) := by rw [h]
theorem lt_of_cell {w : World} {a : Addr} {v : Value} (h : w.cell? a = some v) : a.block < w.heap.size := by
  unfold World.cell? at h
  cases ho : w.heap[a.block]? with
  | none => simp [ho] at h
  | some o => exact (Array.getElem?_eq_some_iff.1 ho).1
theorem cell_on {w w' : World} {a : Addr} {v : Value} (h : w.cell? a = some v) (k : Below w.heap.size w w') : w'.cell? a = some v :=
  (k.cell (p := a) (lt_of_cell h)).trans h
def Ints (Q : Nat → Prop) (k : IntKind) (w : World) (a : Option Addr) (n : Nat) (S : Nat → Int) : Prop :=
  n = 0 ∨ ∃ b off, a = some ⟨b, off, none⟩ ∧ Q b ∧ ∀ i, i < n → w.cell? ⟨b, off + i, none⟩ = some (.int k (S i))
structure OpC (Q : Nat → Prop) (w : World) (b o : Nat) (d : OpD) : Prop where
  kind : w.cell? ⟨b, o, none⟩ = some (.int .i64 d.kind)
  set : ∃ a c, w.cell? ⟨b, o + 1, none⟩ = some (.slice a d.sl c) ∧ Ints Q .i64 w a d.sl d.set
  arg : w.cell? ⟨b, o + 2, none⟩ = some (.int .i64 d.arg)
def OpsA (Q : Nat → Prop) (w : World) (a : Option Addr) (n : Nat) (B : Nat → OpD) : Prop :=
  n = 0 ∨ ∃ b off, a = some ⟨b, off, none⟩ ∧ Q b ∧ ∀ i, i < n → OpC Q w b (off + i * 3) (B i)
structure RuleC (Q : Nat → Prop) (w : World) (b o : Nat) (d : NodeD) : Prop where
  name : ∃ a c, w.cell? ⟨b, o, none⟩ = some (.slice a d.nl c) ∧ Ints Q .u8 w a d.nl d.name
  body : ∃ a c, w.cell? ⟨b, o + 1, none⟩ = some (.slice a d.bl c) ∧ OpsA Q w a d.bl d.body
structure LabC (Q : Nat → Prop) (w : World) (b o : Nat) (d : NodeD) : Prop where
  name : ∃ a c, w.cell? ⟨b, o, none⟩ = some (.slice a d.nl c) ∧ Ints Q .u8 w a d.nl d.name
  has : w.cell? ⟨b, o + 1, none⟩ = some (.bool d.has)
  body : ∃ a c, w.cell? ⟨b, o + 2, none⟩ = some (.slice a d.bl c) ∧ OpsA Q w a d.bl d.body
def RulesA (Q : Nat → Prop) (w : World) (a : Option Addr) (n : Nat) (R : Nat → NodeD) : Prop :=
  n = 0 ∨ ∃ b off, a = some ⟨b, off, none⟩ ∧ Q b ∧ ∀ i, i < n → RuleC Q w b (off + i * 2) (R i)
def LabsA (Q : Nat → Prop) (w : World) (a : Option Addr) (n : Nat) (R : Nat → NodeD) : Prop :=
  n = 0 ∨ ∃ b off, a = some ⟨b, off, none⟩ ∧ Q b ∧ ∀ i, i < n → LabC Q w b (off + i * 3) (R i)
def Stay (Q : Nat → Prop) (w w' : World) : Prop := ∀ b, Q b → w'.heap[b]? = w.heap[b]?
theorem Stay.cell {Q : Nat → Prop} {w w' : World} (h : Stay Q w w') {b o : Nat} (hq : Q b) : w'.cell? ⟨b, o, none⟩ = w.cell? ⟨b, o, none⟩ :=
  World.cell?_of_block (w := w) (h b hq)
theorem Stay.trans {Q : Nat → Prop} {w w' w'' : World} (h : Stay Q w w') (k : Stay Q w' w'') : Stay Q w w'' := fun b hb => (k b hb).trans (h b hb)
theorem Stay.mono {Q Q' : Nat → Prop} {w w' : World} (h : Stay Q w w') (hq : ∀ b, Q' b → Q b) : Stay Q' w w' := fun b hb => h b (hq b hb)
variable {Q Q' : Nat → Prop} {w w' : World}
theorem Ints.on {k : IntKind} {a : Option Addr} {n : Nat} {S : Nat → Int} (h : Ints Q k w a n S) (t : Stay Q w w') : Ints Q k w' a n S := by
  rcases h with h | ⟨b, off, e, hq, h⟩
  · exact .inl h
  · exact .inr ⟨b, off, e, hq, fun i hi => (t.cell hq).trans (h i hi)⟩
theorem Ints.wide {k : IntKind} {a : Option Addr} {n : Nat} {S : Nat → Int} (h : Ints Q k w a n S) (t : ∀ b, Q b → Q' b) : Ints Q' k w a n S := by
  rcases h with h | ⟨b, off, e, hq, h⟩
  · exact .inl h
  · exact .inr ⟨b, off, e, t b hq, h⟩
theorem OpC.on {b o : Nat} {d : OpD} (h : OpC Q w b o d) (hq : Q b) (t : Stay Q w w') : OpC Q w' b o d := by
  obtain ⟨h1, ⟨a, c, h2, h3⟩, h4⟩ := h
  exact ⟨(t.cell hq).trans h1, ⟨a, c, (t.cell hq).trans h2, h3.on t⟩, (t.cell hq).trans h4⟩
theorem OpC.wide {b o : Nat} {d : OpD} (h : OpC Q w b o d) (t : ∀ b, Q b → Q' b) : OpC Q' w b o d := by
  obtain ⟨h1, ⟨a, c, h2, h3⟩, h4⟩ := h
  exact ⟨h1, ⟨a, c, h2, h3.wide t⟩, h4⟩
theorem OpsA.on {a : Option Addr} {n : Nat} {B : Nat → OpD} (h : OpsA Q w a n B) (t : Stay Q w w') : OpsA Q w' a n B := by
  rcases h with h | ⟨b, off, e, hq, h⟩
  · exact .inl h
  · exact .inr ⟨b, off, e, hq, fun i hi => (h i hi).on hq t⟩
theorem OpsA.wide {a : Option Addr} {n : Nat} {B : Nat → OpD} (h : OpsA Q w a n B) (t : ∀ b, Q b → Q' b) : OpsA Q' w a n B := by
  rcases h with h | ⟨b, off, e, hq, h⟩
  · exact .inl h
  · exact .inr ⟨b, off, e, t b hq, fun i hi => (h i hi).wide t⟩
theorem RuleC.on {b o : Nat} {d : NodeD} (h : RuleC Q w b o d) (hq : Q b) (t : Stay Q w w') : RuleC Q w' b o d := by
  obtain ⟨⟨a, c, h1, h2⟩, ⟨a', c', h3, h4⟩⟩ := h
  exact ⟨⟨a, c, (t.cell hq).trans h1, h2.on t⟩, ⟨a', c', (t.cell hq).trans h3, h4.on t⟩⟩
theorem RuleC.wide {b o : Nat} {d : NodeD} (h : RuleC Q w b o d) (t : ∀ b, Q b → Q' b) : RuleC Q' w b o d := by
  obtain ⟨⟨a, c, h1, h2⟩, ⟨a', c', h3, h4⟩⟩ := h
  exact ⟨⟨a, c, h1, h2.wide t⟩, ⟨a', c', h3, h4.wide t⟩⟩
theorem LabC.on {b o : Nat} {d : NodeD} (h : LabC Q w b o d) (hq : Q b) (t : Stay Q w w') : LabC Q w' b o d := by
  obtain ⟨⟨a, c, h1, h2⟩, h0, ⟨a', c', h3, h4⟩⟩ := h
  exact ⟨⟨a, c, (t.cell hq).trans h1, h2.on t⟩, (t.cell hq).trans h0, ⟨a', c', (t.cell hq).trans h3, h4.on t⟩⟩
theorem LabC.wide {b o : Nat} {d : NodeD} (h : LabC Q w b o d) (t : ∀ b, Q b → Q' b) : LabC Q' w b o d := by
  obtain ⟨⟨a, c, h1, h2⟩, h0, ⟨a', c', h3, h4⟩⟩ := h
  exact ⟨⟨a, c, h1, h2.wide t⟩, h0, ⟨a', c', h3, h4.wide t⟩⟩
theorem RulesA.on {a : Option Addr} {n : Nat} {R : Nat → NodeD} (h : RulesA Q w a n R) (t : Stay Q w w') : RulesA Q w' a n R := by
  rcases h with h | ⟨b, off, e, hq, h⟩
  · exact .inl h
  · exact .inr ⟨b, off, e, hq, fun i hi => (h i hi).on hq t⟩
theorem RulesA.wide {a : Option Addr} {n : Nat} {R : Nat → NodeD} (h : RulesA Q w a n R) (t : ∀ b, Q b → Q' b) : RulesA Q' w a n R := by
  rcases h with h | ⟨b, off, e, hq, h⟩
  · exact .inl h
  · exact .inr ⟨b, off, e, t b hq, fun i hi => (h i hi).wide t⟩
theorem LabsA.on {a : Option Addr} {n : Nat} {R : Nat → NodeD} (h : LabsA Q w a n R) (t : Stay Q w w') : LabsA Q w' a n R := by
  rcases h with h | ⟨b, off, e, hq, h⟩
  · exact .inl h
  · exact .inr ⟨b, off, e, hq, fun i hi => (h i hi).on hq t⟩
theorem LabsA.wide {a : Option Addr} {n : Nat} {R : Nat → NodeD} (h : LabsA Q w a n R) (t : ∀ b, Q b → Q' b) : LabsA Q' w a n R := by
  rcases h with h | ⟨b, off, e, hq, h⟩
  · exact .inl h
  · exact .inr ⟨b, off, e, t b hq, fun i hi => (h i hi).wide t⟩
theorem Ints.later {k : IntKind} {a : Option Addr} {n : Nat} {S : Nat → Int} (h : Ints Q k w a n S) (t : Below w.heap.size w w') : Ints Q k w' a n S := by
  rcases h with h | ⟨b, off, e, hq, h⟩
  · exact .inl h
  · exact .inr ⟨b, off, e, hq, fun i hi => cell_on (h i hi) t⟩
theorem OpC.later {b o : Nat} {d : OpD} (h : OpC Q w b o d) (t : Below w.heap.size w w') : OpC Q w' b o d := by
  obtain ⟨h1, ⟨a, c, h2, h3⟩, h4⟩ := h
  exact ⟨cell_on h1 t, ⟨a, c, cell_on h2 t, h3.later t⟩, cell_on h4 t⟩
theorem OpsA.later {a : Option Addr} {n : Nat} {B : Nat → OpD} (h : OpsA Q w a n B) (t : Below w.heap.size w w') : OpsA Q w' a n B := by
  rcases h with h | ⟨b, off, e, hq, h⟩
  · exact .inl h
  · exact .inr ⟨b, off, e, hq, fun i hi => (h i hi).later t⟩
theorem RuleC.later {b o : Nat} {d : NodeD} (h : RuleC Q w b o d) (t : Below w.heap.size w w') : RuleC Q w' b o d := by
  obtain ⟨⟨a, c, h1, h2⟩, ⟨a', c', h3, h4⟩⟩ := h
  exact ⟨⟨a, c, cell_on h1 t, h2.later t⟩, ⟨a', c', cell_on h3 t, h4.later t⟩⟩
theorem LabC.later {b o : Nat} {d : NodeD} (h : LabC Q w b o d) (t : Below w.heap.size w w') : LabC Q w' b o d := by
  obtain ⟨⟨a, c, h1, h2⟩, h0, ⟨a', c', h3, h4⟩⟩ := h
  exact ⟨⟨a, c, cell_on h1 t, h2.later t⟩, cell_on h0 t, ⟨a', c', cell_on h3 t, h4.later t⟩⟩
theorem RulesA.later {a : Option Addr} {n : Nat} {R : Nat → NodeD} (h : RulesA Q w a n R) (t : Below w.heap.size w w') : RulesA Q w' a n R := by
  rcases h with h | ⟨b, off, e, hq, h⟩
  · exact .inl h
  · exact .inr ⟨b, off, e, hq, fun i hi => (h i hi).later t⟩
theorem LabsA.later {a : Option Addr} {n : Nat} {R : Nat → NodeD} (h : LabsA Q w a n R) (t : Below w.heap.size w w') : LabsA Q w' a n R := by
  rcases h with h | ⟨b, off, e, hq, h⟩
  · exact .inl h
  · exact .inr ⟨b, off, e, hq, fun i hi => (h i hi).later t⟩
theorem bel1 (w : World) (o : Obj) : Below w.heap.size w (w.alloc o) := (Below.refl _ w).alloc (Nat.le_refl _) o
theorem bel2 (w : World) (o p : Obj) : Below w.heap.size w ((w.alloc o).alloc p) := (bel1 w o).alloc (by simp) p
theorem bel_tr {a b c : World} (h : Below a.heap.size a b) (k : Below b.heap.size b c) : Below a.heap.size a c := h.trans (k.mono h.size)
def Of (w : World) : Nat → Prop := fun b => b < w.heap.size
end
section
open Go.RowKit
theorem iffT {P : Prop} (h : P) : (true = true ↔ P) := ⟨fun _ => h, fun _ => rfl⟩
theorem iffF {P : Prop} (h : ¬ P) : (false = true ↔ P) := ⟨(fun e => absurd e (by decide)), fun q => absurd q h⟩
def Says (P : Prop) (w : World) (e : Ending) (w' : World) : Prop := (∃ r : Bool, e = .returned (.bool r) ∧ (r = true ↔ P)) ∧ w = w'
def SaysB (P : Prop) (w : World) (e : Ending) (w' : World) : Prop := (∃ r : Bool, e = .returned (.bool r) ∧ (r = true ↔ P)) ∧ Below w.heap.size w w'
theorem Says.b {P : Prop} {w w' : World} {e : Ending} (h : Says P w e w') : SaysB P w e w' := by
  obtain ⟨h1, rfl⟩ := h; exact ⟨h1, Below.refl _ _⟩
theorem letter_cases (c : Int) : c < 65 ∨ (65 ≤ c ∧ c ≤ 90) ∨ (90 < c ∧ c < 95) ∨ c = 95 ∨ c = 96 ∨ (97 ≤ c ∧ c ≤ 122) ∨ 122 < c := by omega
theorem digit_cases (c : Int) : c < 48 ∨ (48 ≤ c ∧ c ≤ 57) ∨ 57 < c := by omega
set_option maxHeartbeats 1000000 in
theorem beginsName_any (c : Int) (w : World) (h0 : 0 ≤ c) (h1 : c ≤ 255) :
    Calls Tryz.prog 81 #[.int .u8 c] w (Says (M.Letter c) w) := by
  rcases letter_cases c with h | ⟨h, h'⟩ | ⟨h, h'⟩ | h | h | ⟨h, h'⟩ | h
  all_goals (try subst h)
  all_goals (
    go_enter Tryz.func81, Tryz.ntmps81
    go_wp2
    go_ret
    exact ⟨⟨_, rfl, by simp [M.Letter] <;> omega⟩, rfl⟩)
set_option maxHeartbeats 1000000 in
theorem l2letter_any (c : Int) (w : World) (h0 : 0 ≤ c) (h1 : c ≤ 255) :
    Calls Tryz.prog 51 #[.int .u8 c] w (Says (M.Letter c) w) := by
  rcases letter_cases c with h | ⟨h, h'⟩ | ⟨h, h'⟩ | h | h | ⟨h, h'⟩ | h
  all_goals (try subst h)
  all_goals (
    go_enter Tryz.func51, Tryz.ntmps51
    go_wp2
    go_ret
    exact ⟨⟨_, rfl, by simp [M.Letter] <;> omega⟩, rfl⟩)
set_option maxHeartbeats 1000000 in
theorem l2digit_any (c : Int) (w : World) (h0 : 0 ≤ c) (h1 : c ≤ 255) :
    Calls Tryz.prog 52 #[.int .u8 c] w (Says (M.Digit c) w) := by
  rcases digit_cases c with h | ⟨h, h'⟩ | h
  all_goals (
    go_enter Tryz.func52, Tryz.ntmps52
    go_wp2
    go_ret
    exact ⟨⟨_, rfl, by simp [M.Digit] <;> omega⟩, rfl⟩)
set_option maxHeartbeats 1000000 in
theorem continuesName_any (c : Int) (w : World) (h0 : 0 ≤ c) (h1 : c ≤ 255) :
    Calls Tryz.prog 82 #[.int .u8 c] w (Says (M.Letter c ∨ M.Digit c) w) := by
  by_cases hl : M.Letter c
  · have HL : Hid (M.Letter c) := hl
    clear hl
    go_enter Tryz.func82, Tryz.ntmps82
    go_wp2_with (go_at_call 81; refine (beginsName_any c _ h0 h1).mono ?_; rintro e W ⟨⟨r, rfl, hr⟩, hw⟩; subst W; obtain rfl : r = true := hr.2 HL.out; clear hr)
    go_ret
    exact ⟨⟨true, rfl, iffT (.inl HL.out)⟩, rfl⟩
  · have HL : Hid (¬ M.Letter c) := hl
    clear hl
    rcases digit_cases c with h | ⟨h, h'⟩ | h
    all_goals (
      go_enter Tryz.func82, Tryz.ntmps82
      go_wp2_with (go_at_call 81; refine (beginsName_any c _ h0 h1).mono ?_; rintro e W ⟨⟨r, rfl, hr⟩, hw⟩; subst W; obtain rfl : r = false := by { cases r; rfl; exact absurd (hr.1 rfl) HL.out }; clear hr)
      go_ret
      exact ⟨⟨_, rfl, by simp [HL.out, M.Digit] <;> omega⟩, rfl⟩)
theorem kind_cases (k : Int) : k < 4 ∨ k = 4 ∨ k = 5 ∨ k = 6 ∨ k = 7 ∨ 7 < k := by omega
set_option maxHeartbeats 1000000 in
theorem l2arity_any (k : Int) (w : World) :
    Calls Tryz.prog 77 #[.int .i64 k] w fun e w' => e = .returned (.int .i64 (M.ar k)) ∧ w = w' := by
  rcases kind_cases k with h | h | h | h | h | h
  all_goals (try subst h)
  all_goals (
    try (
      have e4 : (k == 4) = false := by simp; omega
      have e5 : (k == 5) = false := by simp; omega
      have e6 : (k == 6) = false := by simp; omega
      have e7 : (k == 7) = false := by simp; omega)
    go_enter Tryz.func77, Tryz.ntmps77
    go_wp2
    go_ret
    exact ⟨ret_int (by unfold M.ar; first | rfl | (rw [if_neg (by omega), if_neg (by omega)])), rfl⟩)
end
section
open Go.RowKit
open M (OpD NodeD Gr LessT)
def Byt (n : Nat) (T : Nat → Int) : Prop := ∀ i, i < n → 0 ≤ T i ∧ T i ≤ 255
def u8s (n : Nat) (T : Nat → Int) : List UInt8 := (List.range n).map fun i => UInt8.ofNat (T i).toNat
def str (n : Nat) (T : Nat → Int) : ByteArray := strOfNums ((List.range n).map T)
theorem str_list (n : Nat) (T : Nat → Int) : (str n T).toList = u8s n T := by
  rw [ByteArray.toList_eq, str, strOfNums_data, u8s, List.map_map]; rfl
theorem str_data (n : Nat) (T : Nat → Int) : (str n T).data.toList = u8s n T := by
  rw [str, strOfNums_data, u8s, List.map_map]; rfl
theorem str_size (n : Nat) (T : Nat → Int) : (str n T).size = n := by rw [str, strOfNums_size]; simp
theorem u8s_succ (n : Nat) (T : Nat → Int) : u8s (n + 1) T = UInt8.ofNat (T 0).toNat :: u8s n (fun i => T (i + 1)) := by
  simp [u8s, List.range_succ_eq_map, Function.comp_def]
theorem u8_lt {x y : Int} (hx : 0 ≤ x ∧ x ≤ 255) (hy : 0 ≤ y ∧ y ≤ 255) : UInt8.ofNat x.toNat < UInt8.ofNat y.toNat ↔ x < y := by
  rw [UInt8.lt_iff_toNat_lt]
  simp only [UInt8.toNat_ofNat']
  omega
theorem u8_eq {x y : Int} (hx : 0 ≤ x ∧ x ≤ 255) (hy : 0 ≤ y ∧ y ≤ 255) : UInt8.ofNat x.toNat = UInt8.ofNat y.toNat ↔ x = y := by
  rw [← UInt8.toNat_inj]
  simp only [UInt8.toNat_ofNat']
  omega
theorem lessT_zero_right (n : Nat) (S T : Nat → Int) : ¬ LessT n S 0 T := by
  rintro ⟨k, _, _, _, ⟨_, h, _⟩ | ⟨_, h⟩⟩ <;> omega
theorem lessT_zero_left (m : Nat) (S T : Nat → Int) : LessT 0 S (m + 1) T := ⟨0, fun i hi => by omega, by omega, by omega, .inr ⟨rfl, by omega⟩⟩
theorem lessT_succ (n m : Nat) (S T : Nat → Int) : LessT (n + 1) S (m + 1) T ↔ S 0 < T 0 ∨ (S 0 = T 0 ∧ LessT n (fun i => S (i + 1)) m (fun i => T (i + 1))) := by
  constructor
  · rintro ⟨k, he, h1, h2, h⟩
    by_cases hk : k = 0
    · subst hk
      rcases h with ⟨_, _, h⟩ | ⟨h, _⟩
      · exact .inl h
      · omega
    · obtain ⟨q, rfl⟩ : ∃ q, k = q + 1 := ⟨k - 1, by omega⟩
      refine .inr ⟨he 0 (by omega), q, fun i hi => he (i + 1) (by omega), by omega, by omega, ?_⟩
      rcases h with ⟨a, b, h⟩ | ⟨a, b⟩
      · exact .inl ⟨by omega, by omega, h⟩
      · exact .inr ⟨by omega, by omega⟩
  · rintro (h | ⟨h, q, he, h1, h2, h3⟩)
    · exact ⟨0, fun i hi => by omega, by omega, by omega, .inl ⟨by omega, by omega, h⟩⟩
    · refine ⟨q + 1, fun i hi => ?_, by omega, by omega, ?_⟩
      · by_cases e : i = 0
        · subst e; exact h
        · obtain ⟨j, rfl⟩ : ∃ j, i = j + 1 := ⟨i - 1, by omega⟩
          exact he j (by omega)
      · rcases h3 with ⟨a, b, h⟩ | ⟨a, b⟩
        · exact .inl ⟨by omega, by omega, h⟩
        · exact .inr ⟨by omega, by omega⟩
theorem less_iff : ∀ (n m : Nat) (S T : Nat → Int), Byt n S → Byt m T → (Op.bytesLess (u8s n S) (u8s m T) = true ↔ LessT n S m T)
  | n, 0, S, T, _, _ => by
    have : u8s 0 T = [] := rfl
    rw [this]
    cases u8s n S <;> simp [Op.bytesLess, lessT_zero_right]
  | 0, m + 1, S, T, _, _ => by
    rw [u8s_succ]
    have : u8s 0 S = [] := rfl
    rw [this]
    simp [Op.bytesLess, lessT_zero_left]
  | n + 1, m + 1, S, T, hS, hT => by
    have ih := less_iff n m (fun i => S (i + 1)) (fun i => T (i + 1)) (fun i hi => hS (i + 1) (by omega)) (fun i hi => hT (i + 1) (by omega))
    rw [u8s_succ, u8s_succ, Op.bytesLess, lessT_succ, ← ih]
    simp only [Bool.or_eq_true, Bool.and_eq_true, decide_eq_true_eq, beq_iff_eq]
    rw [u8_lt (hS 0 (by omega)) (hT 0 (by omega)), u8_eq (hS 0 (by omega)) (hT 0 (by omega))]
theorem u8s_eq : ∀ (n m : Nat) (S T : Nat → Int), Byt n S → Byt m T → (u8s n S = u8s m T ↔ n = m ∧ ∀ i, i < n → S i = T i)
  | 0, 0, S, T, _, _ => ⟨fun _ => ⟨rfl, fun i hi => by omega⟩, fun _ => rfl⟩
  | 0, m + 1, S, T, _, _ => by
    rw [u8s_succ]
    exact ⟨fun h => absurd h (by simp [u8s]), fun h => by omega⟩
  | n + 1, 0, S, T, _, _ => by
    rw [u8s_succ]
    exact ⟨fun h => absurd h (by simp [u8s]), fun h => by omega⟩
  | n + 1, m + 1, S, T, hS, hT => by
    have ih := u8s_eq n m (fun i => S (i + 1)) (fun i => T (i + 1)) (fun i hi => hS (i + 1) (by omega)) (fun i hi => hT (i + 1) (by omega))
    rw [u8s_succ, u8s_succ, List.cons.injEq, ih, u8_eq (hS 0 (by omega)) (hT 0 (by omega))]
    constructor
    · rintro ⟨h0, h1, h2⟩
      refine ⟨by omega, fun i hi => ?_⟩
      by_cases e : i = 0
      · subst e; exact h0
      · obtain ⟨j, rfl⟩ : ∃ j, i = j + 1 := ⟨i - 1, by omega⟩
        exact h2 j (by omega)
    · rintro ⟨h1, h2⟩
      exact ⟨h2 0 (by omega), by omega, fun i hi => h2 (i + 1) (by omega)⟩
theorem str_eq (n m : Nat) (S T : Nat → Int) (hS : Byt n S) (hT : Byt m T) : str n S = str m T ↔ n = m ∧ ∀ i, i < n → S i = T i := by
  rw [← u8s_eq n m S T hS hT, ← str_data, ← str_data]
  constructor
  · intro h; rw [h]
  · intro h
    apply ByteArray.ext
    exact Array.ext' h
theorem run_load0 (w : World) (x : Addr) : (loadCells x 0).run Tryz.prog w = .ok #[] w := by
  have := run_loadCells_list (P := Tryz.prog) w x [] (fun j v h => by simp at h)
  simpa using this
theorem conv_run (Q : Nat → Prop) (a : Option Addr) (n c : Nat) (T : Nat → Int) (w : World) (h : Ints Q .u8 w a n T) : (convert 22 9 (.slice a n c)).run Tryz.prog w = .ok (.string (str n T)) w := by
  by_cases h0 : n = 0
  · subst h0
    cases a with
    | none => exact run_convert_bytes_nil w 22 5 Tryz.underlying22 Tryz.underlying5 0 c 9 Tryz.underlying9
    | some x =>
      rw [run_convert_bytes_string w 22 9 5 _ 0 c Tryz.underlying22 Tryz.underlying5 Tryz.underlying9, run_bytesToString w x 0 c [] (by simpa using run_load0 w x)]
      rfl
  · rcases h with h | ⟨b, off, rfl, hq, h⟩
    · omega
    · exact run_convert_bytes_arg w 22 5 Tryz.underlying22 Tryz.underlying5 b off n c ((List.range n).map T) (by simp) (fun i hi => by rw [h i hi]; simp [hi]) 9 Tryz.underlying9
set_option maxHeartbeats 1000000 in
theorem l2less_any (Q : Nat → Prop) (a a' : Option Addr) (n c m c' : Nat) (S T : Nat → Int) (w : World) (hS : Ints Q .u8 w a n S) (hT : Ints Q .u8 w a' m T) (bS : Byt n S) (bT : Byt m T) :
    Calls Tryz.prog 33 #[.slice a n c, .slice a' m c'] w (Says (LessT n S m T) w) := by
  have r1 := conv_run Q a n c S w hS
  have r2 := conv_run Q a' m c' T w hT
  have HL : Hid (Op.bytesLess (u8s n S) (u8s m T) = true ↔ LessT n S m T) := less_iff n m S T bS bT
  have HS1 : Hid ((str n S).toList = u8s n S) := str_list n S
  have HS2 : Hid ((str m T).toList = u8s m T) := str_list m T
  clear hS hT bS bT
  generalize str n S = s1 at *
  generalize str m T = s2 at *
  go_enter Tryz.func33, Tryz.ntmps33
  go_wp2
  go_ret
  exact ⟨⟨_, rfl, by rw [HS1.out, HS2.out]; exact HL.out⟩, rfl⟩
end
namespace M
def Fed (B : Nat → OpD) (i : Nat) : Prop := ∀ j, j < i → ar (B j).kind ≤ dep B j
theorem Fed.less {B : Nat → OpD} {i j : Nat} (h : Fed B i) (hj : j ≤ i) : Fed B j := fun k hk => h k (by omega)
section
variable {α : Type} [Inhabited α] (f : OpD → α → α → α) (B : Nat → OpD)
end
def tg (nr : Nat) (o : OpD) : Nat := if o.kind = 3 then nr + o.arg.toNat else o.arg.toNat
def Names (o : OpD) : Prop := o.kind = 2 ∨ o.kind = 3
instance (o : OpD) : Decidable (Names o) := inferInstanceAs (Decidable (_ ∨ _))
def top {α : Type} [Inhabited α] (l : List (Nat × α)) : α := match l with | (_, x) :: _ => x | [] => default
structure Mono (n : Nat) (F : (Nat → Bool) → Nat → Bool) : Prop where
  mono : ∀ m m', (∀ v, v < n → m v = true → m' v = true) → ∀ v, v < n → F m v = true → F m' v = true
structure Least (n : Nat) (F : (Nat → Bool) → Nat → Bool) (m : Nat → Bool) : Prop where
  shut : ∀ v, v < n → F m v = true → m v = true
  low : ∀ t : Nat → Bool, (∀ v, v < n → F t v = true → t v = true) → ∀ v, v < n → m v = true → t v = true
def cnt (m : Nat → Bool) : Nat → Nat
  | 0 => 0
  | n + 1 => cnt m n + (if m n then 1 else 0)
structure WI (n : Nat) (F : (Nat → Bool) → Nat → Bool) (wl : List Nat) (m : Nat → Bool) : Prop where
  all : ∀ x, x ∈ wl → x < n
  pend : ∀ v, v < n → m v = false → F m v = true → v ∈ wl
  low : ∀ t : Nat → Bool, (∀ v, v < n → F t v = true → t v = true) → ∀ v, v < n → m v = true → t v = true
theorem WI.start (n : Nat) (F : (Nat → Bool) → Nat → Bool) (wl : List Nat) (h : ∀ x, x ∈ wl ↔ x < n) : WI n F wl (fun _ => false) :=
  ⟨fun x hx => (h x).1 hx, fun v hv _ _ => (h v).2 hv, fun t ht v hv e => by simp at e⟩
theorem WI.done {n : Nat} {F : (Nat → Bool) → Nat → Bool} {m : Nat → Bool} (h : WI n F [] m) : Least n F m :=
  ⟨fun v hv e => by
    cases q : m v with
    | true => rfl
    | false => exact absurd (h.pend v hv q e) (by simp), h.low⟩
theorem WI.skip {n : Nat} {F : (Nat → Bool) → Nat → Bool} {wl : List Nat} {x : Nat} {m : Nat → Bool} (h : WI n F (wl ++ [x]) m) (q : m x = true ∨ F m x = false) : WI n F wl m := by
  refine ⟨fun y hy => h.all y (by simp [hy]), fun v hv h1 h2 => ?_, h.low⟩
  have := h.pend v hv h1 h2
  simp at this
  rcases this with k | rfl
  · exact k
  · rcases q with q | q
    · rw [h1] at q; cases q
    · rw [h2] at q; cases q
theorem WI.mark {n : Nat} {F : (Nat → Bool) → Nat → Bool} {wl us : List Nat} {x : Nat} {m m' : Nat → Bool} (hM : Mono n F) (h : WI n F (wl ++ [x]) m) (q : F m x = true)
    (hm : ∀ v, v < n → m' v = (m v || v == x)) (hu : ∀ u, u ∈ us → u < n) (dp : ∀ v, v < n → F m' v = true → F m v = false → v ∈ us) : WI n F (wl ++ us) m' := by
  have hx : x < n := h.all x (by simp)
  refine ⟨fun y hy => ?_, fun v hv h1 h2 => ?_, fun t ht v hv e => ?_⟩
  · simp at hy
    rcases hy with k | k
    · exact h.all y (by simp [k])
    · exact hu y k
  · rw [hm v hv] at h1
    simp at h1
    cases hf : F m v with
    | false => simp [dp v hv h2 hf]
    | true =>
      have := h.pend v hv h1.1 hf
      simp at this
      rcases this with k | k
      · simp [k]
      · exact absurd k h1.2
  · rw [hm v hv] at e
    simp at e
    rcases e with e | rfl
    · exact h.low t ht v hv e
    · exact ht v hv (hM.mono m t (h.low t ht) v hv q)
def left (n : Nat) (m : Nat → Bool) (wl : Nat) : Nat := (n - cnt m n) * (n + 1) + wl
end M
namespace M
structure InsD where
  kind : Int
  arg : Int
  to : Int
  sl : Nat
  set : Nat → Int
def ins (k a t : Int) : InsD := ⟨k, a, t, 0, fun _ => 0⟩
inductive EX where
  | empty
  | set (n : Nat) (S : Nat → Int)
  | ref (n : Nat)
  | thr (l n : Nat)
  | seq (x y : EX)
  | alt (x y : EX)
  | star (x : EX)
  | not (x : EX)
instance : Inhabited EX := ⟨.empty⟩
def EX.len : EX → Nat
  | .empty => 0
  | .set _ _ => 1
  | .ref _ => 1
  | .thr _ _ => 1
  | .seq x y => x.len + y.len
  | .alt x y => x.len + y.len + 2
  | .star x => x.len + 2
  | .not x => x.len + 2
def EX.Below (m : Nat) : EX → Prop
  | .ref n => n < m
  | .thr _ n => n < m
  | .seq x y => x.Below m ∧ y.Below m
  | .alt x y => x.Below m ∧ y.Below m
  | .star x => x.Below m
  | .not x => x.Below m
  | _ => True
end M
section
open Go.RowKit
theorem odd_rem (n : Nat) (h : n % 2 = 1) : ((n : Int) % 2 != 0) = true := by
  have : (n : Int) % 2 = 1 := by omega
  rw [this]; decide
theorem even_rem (n : Nat) (h : n % 2 = 0) : ((n : Int) % 2 != 0) = false := by
  have : (n : Int) % 2 = 0 := by omega
  rw [this]; decide
theorem rem1_t (n : Nat) (h : n % 2 = 1) : ((n : Int) % 2 == 1) = true := by
  have : (n : Int) % 2 = 1 := by omega
  rw [this]; decide
theorem rem1_f (n : Nat) (h : n % 2 = 0) : ((n : Int) % 2 == 1) = false := by
  have : (n : Int) % 2 = 0 := by omega
  rw [this]; decide
theorem rem0_t (n : Nat) (h : n % 2 = 0) : ((n : Int) % 2 == 0) = true := by
  have : (n : Int) % 2 = 0 := by omega
  rw [this]; decide
theorem rem0_f (n : Nat) (h : n % 2 = 1) : ((n : Int) % 2 == 0) = false := by
  have : (n : Int) % 2 = 1 := by omega
  rw [this]; decide
theorem val_int {k : IntKind} {a b : Int} (h : a = b) : Value.int k a = .int k b := by rw [h]
def canonI (w : World) (n : Nat) (S : Nat → Int) (i : Value) (wr : World) : Prop :=
  ∃ k d : Nat, k ≤ n ∧ i = .int .i64 (k : Int) ∧ wr = w.drewN d ∧ ∀ j, j < k → M.CanAt S j
theorem not_canon {n : Nat} {S : Nat → Int} {k : Nat} (hk : k < n) (h : ¬ M.CanAt S k) : ¬ M.Canon n S := fun q => h (q.2 k hk)
set_option maxHeartbeats 2000000 in
theorem l2canon_any (Q : Nat → Prop) (a : Option Addr) (n c : Nat) (S : Nat → Int) (w : World) (hS : Ints Q .i64 w a n S) (hn : n ≤ 1048576) :
    Calls Tryz.prog 59 #[.slice a n c] w (SaysB (M.Canon n S) w) := by
  rcases (Nat.mod_two_eq_zero_or_one n).symm with he | he
  · have t := odd_rem n he
    go_enter Tryz.func59, Tryz.ntmps59
    go_wp2
    go_ret
    exact ⟨⟨false, rfl, iffF fun q => by have := q.1; omega⟩, Below.refl _ _⟩
  have t := even_rem n he
  go_enter Tryz.func59, Tryz.ntmps59
  go_wp2
  go_loopw [3] (fun i wr => canonI w n S i wr) (fun i _ => n - (intOf i).toNat)
  case atStart => exact ⟨0, 0, by omega, rfl, rfl, fun j hj => absurd hj (Nat.not_lt_zero _)⟩
  case round =>
    obtain ⟨k, d, hk, rfl, rfl, hall⟩ := hrel
    have HA : Hid (∀ j, j < k → M.CanAt S j) := hall
    clear hall
    by_cases hlt : k < n
    · rcases hS with h0 | ⟨b, off, rfl, hq, hS⟩
      · omega
      have hc1 := hS k hlt
      have lt1 : (k : Int) < (n : Int) := by omega
      by_cases c1 : S k < 0
      · go_wp2
        go_ret
        exact ⟨⟨false, rfl, iffF (not_canon hlt fun q => by have := q.1; omega)⟩, by first | exact below_drewN (Below.refl _ _) _ | exact below_drewN (below_drewN (Below.refl _ _) _) _ | exact below_drewN (below_drewN (below_drewN (Below.refl _ _) _) _) _⟩
      by_cases c2 : 255 < S k
      · go_wp2
        go_ret
        exact ⟨⟨false, rfl, iffF (not_canon hlt fun q => by have := q.2.1; omega)⟩, by first | exact below_drewN (Below.refl _ _) _ | exact below_drewN (below_drewN (Below.refl _ _) _) _ | exact below_drewN (below_drewN (below_drewN (Below.refl _ _) _) _) _⟩
      by_cases hz : k = 0
      · subst hz
        rw [Nat.add_zero] at hc1
        go_wp2_with fail
        go_quiet (fail)
        go_wp2_with fail
        go_quiet (fail)
        go_wp2
        go_roundw
        case rel =>
          refine ⟨1, _, by omega, by go_num, rfl, fun j hj => ?_⟩
          obtain rfl : j = 0 := by omega
          exact ⟨by omega, by omega, fun h => by omega, fun h => by omega⟩
        case measure => simp [intOf]; omega
      obtain ⟨p, hp1⟩ : ∃ p, k = p + 1 := ⟨k - 1, by omega⟩
      have HP : Hid (k = p + 1) := hp1
      have hkp : (0 : Int) < (k : Int) := by omega
      have hkn : 0 < k := by omega
      have hc0 := hS p (by have := HP.out; omega)
      have hp := HA.out p (by have := HP.out; omega)
      have b0 := hp.1
      have b1 := hp.2.1
      clear hp
      have em : (k : Int) - 1 = (p : Int) := by omega
      clear hp1
      rcases Nat.mod_two_eq_zero_or_one k with hm | hm
      · have m1 := rem1_f k hm
        have m0 := rem0_t k hm
        by_cases c3 : S k < S p + 2
        · go_wp2_with fail
          go_quiet (fail)
          go_wp2_with fail
          go_quiet (fail)
          go_wp2
          go_ret
          exact ⟨⟨false, rfl, iffF (not_canon hlt fun q => by have := q.2.2.2 ⟨by omega, hm⟩; rw [HP.out] at this c3; simp at this; omega)⟩, by first | exact below_drewN (Below.refl _ _) _ | exact below_drewN (below_drewN (Below.refl _ _) _) _ | exact below_drewN (below_drewN (below_drewN (Below.refl _ _) _) _) _⟩
        · go_wp2_with fail
          go_quiet (fail)
          go_wp2_with fail
          go_quiet (fail)
          go_wp2
          go_roundw
          case rel =>
            refine ⟨k + 1, _, by omega, by go_num, rfl, fun j hj => ?_⟩
            by_cases e : j = k
            · subst j; exact ⟨by omega, by omega, fun h => by omega, fun h => by rw [HP.out] at c3 ⊢; simp; omega⟩
            · exact HA.out j (by omega)
          case measure => simp [intOf]; omega
      · have m1 := rem1_t k hm
        have m0 := rem0_f k hm
        by_cases c3 : S k < S p
        · go_wp2_with fail
          go_quiet (fail)
          go_wp2
          go_ret
          exact ⟨⟨false, rfl, iffF (not_canon hlt fun q => by have := q.2.2.1 hm; rw [HP.out] at this c3; simp at this; omega)⟩, by first | exact below_drewN (Below.refl _ _) _ | exact below_drewN (below_drewN (Below.refl _ _) _) _ | exact below_drewN (below_drewN (below_drewN (Below.refl _ _) _) _) _⟩
        · go_wp2_with fail
          go_quiet (fail)
          go_wp2_with fail
          go_quiet (fail)
          go_wp2
          go_roundw
          case rel =>
            refine ⟨k + 1, _, by omega, by go_num, rfl, fun j hj => ?_⟩
            by_cases e : j = k
            · subst j; exact ⟨by omega, by omega, fun h => by rw [HP.out] at c3 ⊢; simp; omega, fun h => by omega⟩
            · exact HA.out j (by omega)
          case measure => simp [intOf]; omega
    · obtain rfl : k = n := by omega
      go_wp2
      go_ret
      exact ⟨⟨true, rfl, iffT ⟨he, HA.out⟩⟩, by first | exact below_drewN (Below.refl _ _) _ | exact below_drewN (below_drewN (Below.refl _ _) _) _ | exact below_drewN (below_drewN (below_drewN (Below.refl _ _) _) _) _⟩
end
section
open Go.RowKit
open M (OpD NodeD Gr)
set_option maxHeartbeats 1000000 in
theorem l2throws_any (Q : Nat → Prop) (a : Option Addr) (n c l : Nat) (B : Nat → OpD) (w : World) (hB : OpsA Q w a n B) (hn : n ≤ 1048576) :
    Calls Tryz.prog 39 #[.slice a n c, .int .i64 l] w (Says (M.Throws n B l) w) := by
  go_enter Tryz.func39, Tryz.ntmps39
  go_wp2
  go_loopw [5] (fun i wr => ∃ k : Nat, k ≤ n ∧ i = .int .i64 k ∧ wr = w ∧ ∀ j, j < k → ¬ ((B j).kind = 3 ∧ (B j).arg = l)) (fun i _ => n - (intOf i).toNat)
  case atStart => exact ⟨0, Nat.zero_le _, rfl, rfl, fun j hj => absurd hj (Nat.not_lt_zero _)⟩
  case round =>
    obtain ⟨k, hk, rfl, rfl, hall⟩ := hrel
    have HA : Hid (∀ j, j < k → ¬ ((B j).kind = 3 ∧ (B j).arg = l)) := hall
    clear hall
    by_cases hlt : k < n
    · rcases hB with h0 | ⟨b, off, rfl, hq, hB⟩
      · omega
      obtain ⟨c0, ⟨sa, sc, c1, hs⟩, c2⟩ := hB k hlt
      clear hs
      by_cases e3 : (B k).kind = 3
      · have f3 : ((B k).kind == 3) = true := by simp [e3]
        have E3 : Hid ((B k).kind = 3) := e3
        clear e3
        by_cases e4 : (B k).arg = l
        · have f4 : ((B k).arg == (l : Int)) = true := by simp [e4]
          have E4 : Hid ((B k).arg = l) := e4
          clear e4
          go_wp2
          go_ret
          exact ⟨⟨true, rfl, iffT ⟨k, hlt, E3.out, E4.out⟩⟩, rfl⟩
        · have f4 : ((B k).arg == (l : Int)) = false := by simp [e4]
          have E4 : Hid (¬ (B k).arg = l) := e4
          clear e4
          go_wp2
          go_roundw
          case rel => exact ⟨k + 1, by omega, by go_num, by trivial, fun j hj => if e : j = k then e ▸ fun q => E4.out q.2 else HA.out j (by omega)⟩
          case measure => simp [intOf]; omega
      · have f3 : ((B k).kind == 3) = false := by simp [e3]
        have E3 : Hid (¬ (B k).kind = 3) := e3
        clear e3
        go_wp2
        go_roundw
        case rel => exact ⟨k + 1, by omega, by go_num, by trivial, fun j hj => if e : j = k then e ▸ fun q => E3.out q.1 else HA.out j (by omega)⟩
        case measure => simp [intOf]; omega
    · obtain rfl : k = n := by omega
      go_wp2
      go_ret
      exact ⟨⟨false, rfl, iffF fun ⟨i, hi, q⟩ => HA.out i hi q⟩, rfl⟩
def shapeI (w : World) (n : Nat) (B : Nat → OpD) (d i : Value) (wr : World) : Prop :=
  ∃ j : Nat, j ≤ n ∧ d = .int .i64 (M.need B n j) ∧ i = .int .i64 ((n : Int) - 1 - j) ∧ wr = w ∧ ∀ t, t < j → M.need B n t ≠ 0
set_option maxHeartbeats 1000000 in
theorem l2shape_any (Q : Nat → Prop) (a : Option Addr) (n c : Nat) (B : Nat → OpD) (w : World) (hB : OpsA Q w a n B) (hn : n ≤ 1048576) :
    Calls Tryz.prog 60 #[.slice a n c] w (Says (M.Shape n B) w) := by
  go_enter Tryz.func60, Tryz.ntmps60
  go_wp2
  go_loopw [3, 4] (fun d i wr => shapeI w n B d i wr) (fun d i _ => (intOf i + 1).toNat)
  case atStart => exact ⟨0, Nat.zero_le _, rfl, by simp, rfl, fun j hj => absurd hj (Nat.not_lt_zero _)⟩
  case round =>
    obtain ⟨j, hj, rfl, rfl, rfl, hall⟩ := hrel
    have bd := M.need_bd B n j hall
    have HA : Hid (∀ t, t < j → M.need B n t ≠ 0) := hall
    clear hall
    by_cases hlt : j < n
    · rcases hB with h0 | ⟨b, off, rfl, hq, hB⟩
      · omega
      obtain ⟨p, hp⟩ : ∃ p : Nat, n - 1 - j = p := ⟨_, rfl⟩
      have HP : Hid (n - 1 - j = p) := hp
      have ei : (n : Int) - 1 - j = p := by omega
      have hpn : p < n := by omega
      have hpi : (p : Int) < n := by omega
      clear hp
      rw [ei]
      obtain ⟨c0, ⟨sa, sc, c1, hs⟩, c2⟩ := hB p hpn
      clear hs
      have hst : M.need B n (j + 1) = M.need B n j + (M.ar (B p).kind - 1) := by rw [M.need, HP.out]
      have har := M.ar_bd (B p).kind
      have HS : Hid (M.need B n (j + 1) = M.need B n j + (M.ar (B p).kind - 1)) := hst
      clear hst
      by_cases hz : M.need B n j = 0
      · have fz : (M.need B n j == 0) = true := by simp [hz]
        have HZ : Hid (M.need B n j = 0) := hz
        clear hz
        go_wp2
        go_ret
        exact ⟨⟨false, rfl, iffF fun q => ((M.shape_iff n B).2 q).1 j hlt HZ.out⟩, rfl⟩
      · have fz : (M.need B n j == 0) = false := by simp [hz]
        have HZ : Hid (¬ M.need B n j = 0) := hz
        clear hz
        go_wp2_with (go_at_call 77; refine (l2arity_any _ _).mono ?_; rintro e W ⟨rfl, hw⟩; subst W)
        go_roundw
        case rel => exact ⟨j + 1, by omega, val_int HS.out.symm, val_int (by omega), by trivial, fun t ht => if e : t = j then e ▸ HZ.out else HA.out t (by omega)⟩
        case measure => simp [intOf] <;> omega
    · obtain rfl : j = n := by omega
      have ei : (j : Int) - 1 - j = -1 := by omega
      rw [ei]
      go_wp2
      go_ret
      refine ⟨⟨_, rfl, ?_⟩, rfl⟩
      rw [← M.shape_iff]
      simp only [beq_iff_eq]
      exact ⟨fun q => ⟨HA.out, q⟩, fun q => q.2⟩
end
section
open Go.RowKit
open M (OpD NodeD Gr)
theorem elem1 (nr nb sl : Nat) (S : Nat → Int) (arg : Int) : M.ElemOK nr nb ⟨1, sl, S, arg⟩ ↔ arg = 0 ∧ M.Canon sl S := by
  unfold M.ElemOK M.most
  constructor
  · rintro ⟨_, _, h, _, h1, h2⟩
    exact ⟨by simp at h1 h2; omega, h rfl⟩
  · rintro ⟨rfl, h⟩
    refine ⟨?_, ?_, fun _ => h, fun q => absurd rfl q, ?_, ?_⟩ <;> simp
theorem elem2 (nr nb sl : Nat) (S : Nat → Int) (arg : Int) : M.ElemOK nr nb ⟨2, sl, S, arg⟩ ↔ 0 ≤ arg ∧ arg < nr ∧ sl = 0 := by
  unfold M.ElemOK M.most
  simp
  omega
theorem elem3 (nr nb sl : Nat) (S : Nat → Int) (arg : Int) : M.ElemOK nr nb ⟨3, sl, S, arg⟩ ↔ 0 ≤ arg ∧ arg < nb ∧ sl = 0 := by
  unfold M.ElemOK M.most
  simp
  omega
theorem elem0 (nr nb sl : Nat) (S : Nat → Int) (kind arg : Int) (h : kind = 0 ∨ kind = 4 ∨ kind = 5 ∨ kind = 6 ∨ kind = 7) : M.ElemOK nr nb ⟨kind, sl, S, arg⟩ ↔ arg = 0 ∧ sl = 0 := by
  unfold M.ElemOK M.most
  rcases h with rfl | rfl | rfl | rfl | rfl <;> (simp; omega)
theorem elemx (nr nb sl : Nat) (S : Nat → Int) (kind arg : Int) (h : kind < 0 ∨ 7 < kind) : ¬ M.ElemOK nr nb ⟨kind, sl, S, arg⟩ := fun q => by
  have h1 := q.1
  have h2 := q.2.1
  simp at h1 h2
  omega
theorem elem_cases (k : Int) : k = 1 ∨ k = 2 ∨ k = 3 ∨ (k = 0 ∨ k = 4 ∨ k = 5 ∨ k = 6 ∨ k = 7) ∨ (k < 0 ∨ 7 < k) := by omega
end
section
open Go.RowKit
open M (OpD NodeD Gr)
def SmallB (n : Nat) (B : Nat → OpD) : Prop := n ≤ 1048576 ∧ ∀ i, i < n → (B i).sl ≤ 1048576
end
section
open Go.RowKit
open M (OpD NodeD Gr)
def bodyI (w : World) (n nr nb : Nat) (B : Nat → OpD) (i : Value) (wr : World) : Prop :=
  ∃ k : Nat, k ≤ n ∧ i = .int .i64 (k : Int) ∧ Below w.heap.size w wr ∧ ∀ j, j < k → M.ElemOK nr nb (B j)
theorem body_shape (nr nb n : Nat) (B : Nat → OpD) (h : ∀ j, j < n → M.ElemOK nr nb (B j)) : M.BodyOK nr nb n B ↔ M.Shape n B :=
  ⟨fun q => q.2, fun q => ⟨h, q⟩⟩
set_option maxHeartbeats 4000000 in
theorem l2bodyOK_any (Q : Nat → Prop) (a : Option Addr) (nr nb n c : Nat) (B : Nat → OpD) (w : World) (hB : OpsA Q w a n B) (h1 : nr ≤ 1048576) (h2 : nb ≤ 1048576) (h3 : SmallB n B) :
    Calls Tryz.prog 38 #[.slice a n c, .int .i64 nr, .int .i64 nb] w (SaysB (M.BodyOK nr nb n B) w) := by
  obtain ⟨hn, hsl⟩ := h3
  have HB : Hid (OpsA Q w a n B) := hB
  have HSL : Hid (∀ i, i < n → (B i).sl ≤ 1048576) := hsl
  clear hB hsl
  go_enter Tryz.func38, Tryz.ntmps38
  go_wp2
  go_loopw [7] (fun i wr => bodyI w n nr nb B i wr) (fun i _ => n - (intOf i).toNat)
  case atStart => exact ⟨0, Nat.zero_le _, rfl, Below.refl _ _, fun j hj => absurd hj (Nat.not_lt_zero _)⟩
  case round =>
    obtain ⟨k, hk, rfl, hbw, hall⟩ := hrel
    have HA : Hid (∀ j, j < k → M.ElemOK nr nb (B j)) := hall
    clear hall
    by_cases hlt : k < n
    · have hB := HB.out.later hbw
      rcases hB with h0 | ⟨b, off, rfl, hq, hB⟩
      · omega
      obtain ⟨c0, ⟨sa, sc, c1, hs⟩, c2⟩ := hB k hlt
      have hsl := HSL.out k hlt
      have hbl : b < wr.heap.size := lt_of_cell c0
      have HBW : Hid (Below w.heap.size w wr) := hbw
      clear hB hbw
      obtain ⟨d, hd⟩ : ∃ d, B k = d := ⟨_, rfl⟩
      have HD : Hid (B k = d) := hd
      rw [hd] at c0 c1 c2 hs hsl
      clear hd
      obtain ⟨kd, sl, S, arg⟩ := d
      simp only at c0 c1 c2 hs hsl
      have HS : Hid (Ints Q .i64 wr sa sl S) := hs
      clear hs
      have good : M.ElemOK nr nb ⟨kd, sl, S, arg⟩ → ∀ j, j < k + 1 → M.ElemOK nr nb (B j) := fun q j hj => if e : j = k then e ▸ HD.out ▸ q else HA.out j (by omega)
      have bad : ¬ M.ElemOK nr nb ⟨kd, sl, S, arg⟩ → ¬ M.BodyOK nr nb n B := fun q p => q (HD.out ▸ p.1 k hlt)
      have HG : Hid (M.ElemOK nr nb ⟨kd, sl, S, arg⟩ → ∀ j, j < k + 1 → M.ElemOK nr nb (B j)) := good
      have HN : Hid (¬ M.ElemOK nr nb ⟨kd, sl, S, arg⟩ → ¬ M.BodyOK nr nb n B) := bad
      clear good bad
      rcases elem_cases kd with rfl | rfl | rfl | hk' | hk'
      · by_cases hc : M.Canon sl S
        · have HC : Hid (M.Canon sl S) := hc
          clear hc
          by_cases ha : arg < 0
          · go_wp2_with (go_at_call 59; refine (l2canon_any Q sa sl sc S _ (HS.out.later (bel1 wr _)) hsl).mono ?_; rintro e W ⟨⟨r, rfl, hr⟩, hb⟩; obtain rfl : r = true := hr.2 HC.out; have g0 := (cell_on (a := ⟨wr.heap.size, 0, none⟩) (v := .int .i64 1) (by simp) hb); have g2 := (cell_on (a := ⟨wr.heap.size, 2, none⟩) (v := .int .i64 arg) (by simp) hb); have HW : Hid _ := hb; clear hr hb)
            go_ret
            exact ⟨⟨false, rfl, iffF (HN.out fun q => by have := ((elem1 _ _ _ _ _).1 q).1; omega)⟩, bel_tr HBW.out (bel_tr (bel1 wr _) HW.out)⟩
          by_cases ha' : 1 ≤ arg
          · go_wp2_with (go_at_call 59; refine (l2canon_any Q sa sl sc S _ (HS.out.later (bel1 wr _)) hsl).mono ?_; rintro e W ⟨⟨r, rfl, hr⟩, hb⟩; obtain rfl : r = true := hr.2 HC.out; have g0 := (cell_on (a := ⟨wr.heap.size, 0, none⟩) (v := .int .i64 1) (by simp) hb); have g2 := (cell_on (a := ⟨wr.heap.size, 2, none⟩) (v := .int .i64 arg) (by simp) hb); have HW : Hid _ := hb; clear hr hb)
            go_ret
            exact ⟨⟨false, rfl, iffF (HN.out fun q => by have := ((elem1 _ _ _ _ _).1 q).1; omega)⟩, bel_tr HBW.out (bel_tr (bel1 wr _) HW.out)⟩
          go_wp2_with (go_at_call 59; refine (l2canon_any Q sa sl sc S _ (HS.out.later (bel1 wr _)) hsl).mono ?_; rintro e W ⟨⟨r, rfl, hr⟩, hb⟩; obtain rfl : r = true := hr.2 HC.out; have g0 := (cell_on (a := ⟨wr.heap.size, 0, none⟩) (v := .int .i64 1) (by simp) hb); have g2 := (cell_on (a := ⟨wr.heap.size, 2, none⟩) (v := .int .i64 arg) (by simp) hb); have HW : Hid _ := hb; clear hr hb)
          go_roundw
          case rel => exact ⟨k + 1, by omega, by go_num, bel_tr HBW.out (bel_tr (bel1 wr _) HW.out), HG.out ((elem1 _ _ _ _ _).2 ⟨by omega, HC.out⟩)⟩
          case measure => simp [intOf]; omega
        · have HC : Hid (¬ M.Canon sl S) := hc
          clear hc
          go_wp2_with (go_at_call 59; refine (l2canon_any Q sa sl sc S _ (HS.out.later (bel1 wr _)) hsl).mono ?_; rintro e W ⟨⟨r, rfl, hr⟩, hb⟩; obtain rfl : r = false := by { cases r; rfl; exact absurd (hr.1 rfl) HC.out }; have HW : Hid _ := hb; clear hr hb)
          go_ret
          exact ⟨⟨false, rfl, iffF (HN.out fun q => HC.out ((elem1 _ _ _ _ _).1 q).2)⟩, bel_tr HBW.out (bel_tr (bel1 wr _) HW.out)⟩
      · by_cases hz : sl = 0
        · subst hz
          by_cases ha : arg < 0
          · go_wp2
            go_ret
            exact ⟨⟨false, rfl, iffF (HN.out fun q => by have := (elem2 _ _ _ _ _).1 q; omega)⟩, bel_tr HBW.out (bel1 wr _)⟩
          by_cases ha' : (nr : Int) ≤ arg
          · go_wp2
            go_ret
            exact ⟨⟨false, rfl, iffF (HN.out fun q => by have := (elem2 _ _ _ _ _).1 q; omega)⟩, bel_tr HBW.out (bel1 wr _)⟩
          go_wp2
          go_roundw
          case rel => exact ⟨k + 1, by omega, by go_num, bel_tr HBW.out (bel1 wr _), HG.out ((elem2 _ _ _ _ _).2 ⟨by omega, by omega, rfl⟩)⟩
          case measure => simp [intOf]; omega
        · have hz' : ((sl : Int) != 0) = true := by simp; omega
          go_wp2
          go_ret
          exact ⟨⟨false, rfl, iffF (HN.out fun q => by have := (elem2 _ _ _ _ _).1 q; omega)⟩, bel_tr HBW.out (bel1 wr _)⟩
      · by_cases hz : sl = 0
        · subst hz
          by_cases ha : arg < 0
          · go_wp2
            go_ret
            exact ⟨⟨false, rfl, iffF (HN.out fun q => by have := (elem3 _ _ _ _ _).1 q; omega)⟩, bel_tr HBW.out (bel1 wr _)⟩
          by_cases ha' : (nb : Int) ≤ arg
          · go_wp2
            go_ret
            exact ⟨⟨false, rfl, iffF (HN.out fun q => by have := (elem3 _ _ _ _ _).1 q; omega)⟩, bel_tr HBW.out (bel1 wr _)⟩
          go_wp2
          go_roundw
          case rel => exact ⟨k + 1, by omega, by go_num, bel_tr HBW.out (bel1 wr _), HG.out ((elem3 _ _ _ _ _).2 ⟨by omega, by omega, rfl⟩)⟩
          case measure => simp [intOf]; omega
        · have hz' : ((sl : Int) != 0) = true := by simp; omega
          go_wp2
          go_ret
          exact ⟨⟨false, rfl, iffF (HN.out fun q => by have := (elem3 _ _ _ _ _).1 q; omega)⟩, bel_tr HBW.out (bel1 wr _)⟩
      · rcases hk' with rfl | rfl | rfl | rfl | rfl
        all_goals (
          by_cases hz : sl = 0
          · subst hz
            by_cases ha : arg < 0
            · go_wp2
              go_ret
              exact ⟨⟨false, rfl, iffF (HN.out fun q => by have := (elem0 _ _ _ _ _ _ (by omega)).1 q; omega)⟩, bel_tr HBW.out (bel1 wr _)⟩
            by_cases ha' : 1 ≤ arg
            · go_wp2
              go_ret
              exact ⟨⟨false, rfl, iffF (HN.out fun q => by have := (elem0 _ _ _ _ _ _ (by omega)).1 q; omega)⟩, bel_tr HBW.out (bel1 wr _)⟩
            go_wp2
            go_roundw
            case rel => exact ⟨k + 1, by omega, by go_num, bel_tr HBW.out (bel1 wr _), HG.out ((elem0 _ _ _ _ _ _ (by omega)).2 ⟨by omega, rfl⟩)⟩
            case measure => simp [intOf]; omega
          · have hz' : ((sl : Int) != 0) = true := by simp; omega
            go_wp2
            go_ret
            exact ⟨⟨false, rfl, iffF (HN.out fun q => by have := (elem0 _ _ _ _ _ _ (by omega)).1 q; omega)⟩, bel_tr HBW.out (bel1 wr _)⟩)
      · have HK : Hid (kd < 0 ∨ 7 < kd) := hk'
        by_cases hlo : kd < 0
        · go_wp2
          go_ret
          exact ⟨⟨false, rfl, iffF (HN.out (elemx _ _ _ _ _ _ HK.out))⟩, bel_tr HBW.out (bel1 wr _)⟩
        · have hhi : 7 < kd := by omega
          go_wp2
          go_ret
          exact ⟨⟨false, rfl, iffF (HN.out (elemx _ _ _ _ _ _ HK.out))⟩, bel_tr HBW.out (bel1 wr _)⟩
    · obtain rfl : k = n := by omega
      have hB := HB.out.later hbw
      have HBB : Hid (OpsA Q wr a k B) := hB
      clear hB
      go_wp2_with (go_at_call 60; refine (l2shape_any Q a k c B _ HBB.out hn).mono ?_; rintro e W ⟨⟨r, rfl, hr⟩, hw⟩; subst W; have HR : Hid _ := hr; clear hr)
      go_ret
      exact ⟨⟨_, rfl, HR.out.trans (body_shape nr nb _ B HA.out).symm⟩, hbw⟩
end
section
open Go.RowKit
open M (OpD NodeD Gr)
structure SmallN (d : NodeD) : Prop where
  name : d.nl ≤ 1048576
  byt : Byt d.nl d.name
  body : SmallB d.bl d.body
structure GramA (Q : Nat → Prop) (w : World) (ra la : Option Addr) (g : Gr) : Prop where
  rules : RulesA Q w ra g.nr g.rule
  labs : LabsA Q w la g.nb g.lab
structure SmallG (g : Gr) : Prop where
  nr : g.nr ≤ 1048576
  nb : g.nb ≤ 1048576
  rule : ∀ i, i < g.nr → SmallN (g.rule i)
  lab : ∀ i, i < g.nb → SmallN (g.lab i)
theorem GramA.later {Q : Nat → Prop} {w w' : World} {ra la : Option Addr} {g : Gr} (h : GramA Q w ra la g) (t : Below w.heap.size w w') : GramA Q w' ra la g :=
  ⟨h.rules.later t, h.labs.later t⟩
def BodiesOK (g : Gr) : Prop := (∀ i, i < g.nr → M.BodyOK g.nr g.nb (g.rule i).bl (g.rule i).body) ∧
  (∀ i, i < g.nb → ((g.lab i).has = true → M.BodyOK g.nr g.nb (g.lab i).bl (g.lab i).body) ∧ ((g.lab i).has = false → (g.lab i).bl = 0))
theorem all_snoc {p : Nat → Prop} {k : Nat} (h : ∀ j, j < k → p j) (hk : p k) : ∀ j, j < k + 1 → p j := fun j hj =>
  if e : j = k then e ▸ hk else h j (by omega)
end
end Go.Proofs.YteoddjobpmmgeaaGreat
