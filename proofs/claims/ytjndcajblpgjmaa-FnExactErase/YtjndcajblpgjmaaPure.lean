/-
  Plain mathematics of valid grammars (no program, no memory): lists are a length and a function from places.
-/
namespace Go.Proofs.Ytjndcajblpgjmaa.M

structure OpD where
  kind : Int
  sl : Nat
  set : Nat → Int
  arg : Int

structure NodeD where
  nl : Nat
  name : Nat → Int
  has : Bool
  bl : Nat
  body : Nat → OpD

structure Gr where
  nr : Nat
  rule : Nat → NodeD
  nb : Nat
  lab : Nat → NodeD

instance : Inhabited OpD := ⟨⟨0, 0, fun _ => 0, 0⟩⟩
instance : Inhabited NodeD := ⟨⟨0, fun _ => 0, false, 0, fun _ => default⟩⟩

/-! ### Sets -/
def CanAt (S : Nat → Int) (i : Nat) : Prop :=
  0 ≤ S i ∧ S i ≤ 255 ∧ (i % 2 = 1 → S (i - 1) ≤ S i) ∧ (0 < i ∧ i % 2 = 0 → S (i - 1) + 2 ≤ S i)
def Canon (m : Nat) (S : Nat → Int) : Prop := m % 2 = 0 ∧ ∀ i, i < m → CanAt S i

/-- The least number that the pair number k may begin with. -/
def least (S : Nat → Int) (k : Nat) : Int := if k = 0 then 0 else S (2 * k - 1) + 2
/-- What the program asks of the pair number k. -/
def PairOK (S : Nat → Int) (k : Nat) : Prop := least S k ≤ S (2 * k) ∧ S (2 * k) ≤ S (2 * k + 1) ∧ S (2 * k + 1) ≤ 255

theorem pairs_canon (S : Nat → Int) (h : Nat) : (∀ k, k < h → PairOK S k) ↔ ∀ i, i < 2 * h → CanAt S i := by
  constructor
  · intro H
    -- every number is at least 0
    have low : ∀ k, k < h → 0 ≤ S (2 * k) := by
      intro k hk
      induction k with
      | zero => have := (H 0 hk).1; simpa [least] using this
      | succ k ih =>
        have h1 := (H (k + 1) hk).1
        have h2 := (H k (by omega)).2.1
        have h3 := ih (by omega)
        unfold least at h1
        rw [if_neg (by omega), show 2 * (k + 1) - 1 = 2 * k + 1 by omega] at h1
        omega
    intro i hi
    rcases Nat.mod_two_eq_zero_or_one i with e | e
    · obtain ⟨k, rfl⟩ : ∃ k, i = 2 * k := ⟨i / 2, by omega⟩
      have hk : k < h := by omega
      obtain ⟨h1, h2, h3⟩ := H k hk
      refine ⟨low k hk, by omega, fun h => by omega, fun hh => ?_⟩
      unfold least at h1
      rw [if_neg (by omega)] at h1
      exact h1
    · obtain ⟨k, rfl⟩ : ∃ k, i = 2 * k + 1 := ⟨i / 2, by omega⟩
      have hk : k < h := by omega
      obtain ⟨h1, h2, h3⟩ := H k hk
      have := low k hk
      exact ⟨by omega, h3, fun _ => h2, fun hh => by omega⟩
  · intro H k hk
    have h1 := H (2 * k) (by omega)
    have h2 := H (2 * k + 1) (by omega)
    refine ⟨?_, by have := h2.2.2.1 (by omega); simpa using this, h2.2.1⟩
    unfold least
    by_cases e : k = 0
    · subst e; simpa using h1.1
    · rw [if_neg e]
      exact h1.2.2.2 ⟨by omega, by omega⟩

/-! ### Names -/
def Letter (c : Int) : Prop := (97 ≤ c ∧ c ≤ 122) ∨ (65 ≤ c ∧ c ≤ 90) ∨ c = 95
def Digit (c : Int) : Prop := 48 ≤ c ∧ c ≤ 57
def NameB (n : Nat) (T : Nat → Int) : Prop := (∀ i, i < n → Letter (T i) ∨ Digit (T i)) ∧ 0 < n ∧ Letter (T 0)
def NameOK (n : Nat) (T : Nat → Int) : Prop := n ≤ 32 ∧ NameB n T

/-! ### Shapes -/
def ar (k : Int) : Int := if k = 4 ∨ k = 5 then 2 else if k = 6 ∨ k = 7 then 1 else 0
theorem ar_bd (k : Int) : 0 ≤ ar k ∧ ar k ≤ 2 := by unfold ar; split <;> (try split) <;> omega

/-- How many expressions lie on the stack behind the first i elements. -/
def dep (B : Nat → OpD) : Nat → Int
  | 0 => 0
  | i + 1 => dep B i + (1 - ar (B i).kind)

/-- How many operands are missing, from the end, with the elements from i on looked at. -/
def need (B : Nat → OpD) (n : Nat) : Nat → Int
  | 0 => 1
  | j + 1 => need B n j + (ar (B (n - 1 - j)).kind - 1)

def Shape (n : Nat) (B : Nat → OpD) : Prop := (∀ i, i < n → ar (B i).kind ≤ dep B i) ∧ dep B n = 1
def ShapeS (n : Nat) (B : Nat → OpD) : Prop := (∀ j, j < n → need B n j ≠ 0) ∧ need B n n = 0

theorem need_dep (B : Nat → OpD) (n j : Nat) (hj : j ≤ n) : need B n j = 1 - dep B n + dep B (n - j) := by
  induction j with
  | zero => simp [need]
  | succ j ih =>
    rw [need, ih (by omega)]
    have e : n - j = (n - 1 - j) + 1 := by omega
    rw [show n - (j + 1) = n - 1 - j by omega, e, dep]
    omega

theorem shape_iff (n : Nat) (B : Nat → OpD) : ShapeS n B ↔ Shape n B := by
  constructor
  · rintro ⟨h1, h2⟩
    have e : dep B n = 1 := by
      have := need_dep B n n (Nat.le_refl _)
      rw [h2, Nat.sub_self, dep] at this
      omega
    -- the numbers behind each element are at least 1: from the end downwards
    have pos : ∀ j, j < n → 1 ≤ dep B (n - j) := by
      intro j hj
      induction j with
      | zero => rw [Nat.sub_zero]; omega
      | succ j ih =>
        have hp := ih (by omega)
        have hne := h1 (j + 1) hj
        rw [need_dep B n (j + 1) (by omega)] at hne
        have ee : n - j = (n - (j + 1)) + 1 := by omega
        rw [ee, dep] at hp
        have := ar_bd (B (n - (j + 1))).kind
        omega
    refine ⟨fun i hi => ?_, e⟩
    have := pos (n - (i + 1)) (by omega)
    rw [show n - (n - (i + 1)) = i + 1 by omega, dep] at this
    omega
  · rintro ⟨h1, h2⟩
    refine ⟨fun j hj => ?_, ?_⟩
    · rw [need_dep B n j (by omega), h2]
      have e : n - j = (n - 1 - j) + 1 := by omega
      have := h1 (n - 1 - j) (by omega)
      rw [e, dep]
      omega
    · rw [need_dep B n n (Nat.le_refl _), h2, Nat.sub_self, dep]; omega

theorem dep_bd (B : Nat → OpD) (n i : Nat) (hi : i ≤ n) (h : ∀ j, j < i → ar (B j).kind ≤ dep B j) : 0 ≤ dep B i ∧ dep B i ≤ i := by
  induction i with
  | zero => simp [dep]
  | succ i ih =>
    have h1 := ih (by omega) (fun j hj => h j (by omega))
    have h2 := h i (by omega)
    have := ar_bd (B i).kind
    rw [dep]
    omega

theorem need_bd (B : Nat → OpD) (n j : Nat) (h : ∀ k, k < j → need B n k ≠ 0) : 0 ≤ need B n j ∧ need B n j ≤ j + 1 := by
  induction j with
  | zero => simp [need]
  | succ j ih =>
    have h1 := ih (fun k hk => h k (by omega))
    have h2 := h j (by omega)
    have := ar_bd (B (n - 1 - j)).kind
    rw [need]
    omega

/-! ### Elements and bodies -/
def most (nr nb : Nat) (k : Int) : Int := if k = 3 then nb else if k = 2 then nr else 1
def ElemOK (nr nb : Nat) (o : OpD) : Prop :=
  0 ≤ o.kind ∧ o.kind ≤ 7 ∧ (o.kind = 1 → Canon o.sl o.set) ∧ (o.kind ≠ 1 → o.sl = 0) ∧ 0 ≤ o.arg ∧ o.arg < most nr nb o.kind
def BodyOK (nr nb n : Nat) (B : Nat → OpD) : Prop := (∀ i, i < n → ElemOK nr nb (B i)) ∧ Shape n B

def Throws (n : Nat) (B : Nat → OpD) (l : Nat) : Prop := ∃ i, i < n ∧ (B i).kind = 3 ∧ (B i).arg = l

/-! ### Names held against each other -/
def SameName (a b : NodeD) : Prop := a.nl = b.nl ∧ ∀ i, i < a.nl → a.name i = b.name i
/-- The order of bytes. -/
def LessT (n : Nat) (S : Nat → Int) (m : Nat) (T : Nat → Int) : Prop :=
  ∃ k, (∀ i, i < k → S i = T i) ∧ k ≤ n ∧ k ≤ m ∧ ((k < n ∧ k < m ∧ S k < T k) ∨ (k = n ∧ k < m))
def LessName (a b : NodeD) : Prop := LessT a.nl a.name b.nl b.name

/-! ### Sums -/
def sum (f : Nat → Nat) : Nat → Nat
  | 0 => 0
  | n + 1 => sum f n + f n
theorem sum_le (f : Nat → Nat) {i n : Nat} (h : i ≤ n) : sum f i ≤ sum f n := by
  induction n with
  | zero => have : i = 0 := by omega
            subst this; exact Nat.le_refl _
  | succ n ih =>
    by_cases e : i = n + 1
    · subst e; exact Nat.le_refl _
    · rw [sum]; have := ih (by omega); omega
theorem le_sum (f : Nat → Nat) {i n : Nat} (h : i < n) : f i ≤ sum f n := by
  have := sum_le f (show i + 1 ≤ n by omega)
  rw [sum] at this
  omega

def ops (g : Gr) : Nat := sum (fun i => (g.rule i).bl) g.nr + sum (fun i => (g.lab i).bl) g.nb

/-- A valid grammar, as the document says it. -/
structure Valid (g : Gr) : Prop where
  r1 : 0 < g.nr
  r2 : g.nr ≤ 100
  l2 : g.nb ≤ 100
  rn : ∀ i, i < g.nr → NameOK (g.rule i).nl (g.rule i).name
  ru : ∀ i, i < g.nr → ∀ j, j < i → ¬ SameName (g.rule i) (g.rule j)
  ln : ∀ i, i < g.nb → NameOK (g.lab i).nl (g.lab i).name
  la : ∀ i, i < g.nb → 0 < i → LessName (g.lab (i - 1)) (g.lab i)
  rb : ∀ i, i < g.nr → BodyOK g.nr g.nb (g.rule i).bl (g.rule i).body
  lb : ∀ i, i < g.nb → (g.lab i).has = true → BodyOK g.nr g.nb (g.lab i).bl (g.lab i).body
  lz : ∀ i, i < g.nb → (g.lab i).has = false → (g.lab i).bl = 0
  lt : ∀ i, i < g.nb → (g.lab i).has = false → (∃ j, j < g.nr ∧ Throws (g.rule j).bl (g.rule j).body i) ∨ ∃ j, j < g.nb ∧ Throws (g.lab j).bl (g.lab j).body i
  ol : ops g ≤ 2000

end Go.Proofs.Ytjndcajblpgjmaa.M
