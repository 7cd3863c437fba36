/-
  Plain mathematics of characters (no program, no memory): a text is a function from places to numbers, and a length.
-/
namespace Go.Proofs.Ytcllnadfbmkigaa.M

/-- The size that a first byte announces. -/
def lsz (b : Int) : Nat :=
  if 194 ≤ b ∧ b ≤ 223 then 2 else if 224 ≤ b ∧ b ≤ 239 then 3 else if 240 ≤ b ∧ b ≤ 244 then 4 else 1

/-- The least and the greatest second byte. -/
def lo2 (b : Int) : Int := if b = 224 then 160 else if b = 237 then 128 else if b = 240 then 144 else 128
def hi2 (b : Int) : Int := if b = 224 then 191 else if b = 237 then 159 else if b = 240 then 191 else if b = 244 then 143 else 191
def loB (b : Int) (j : Nat) : Int := if j = 0 then lo2 b else 128
def hiB (b : Int) (j : Nat) : Int := if j = 0 then hi2 b else 191

/-- The further bytes are as they must be. -/
def good (T : Nat → Int) (p : Nat) : Bool :=
  decide (∀ j, j < lsz (T p) - 1 → loB (T p) j ≤ T (p + 1 + j) ∧ T (p + 1 + j) ≤ hiB (T p) j)

/-- The number of bytes of the character that begins at p (p in the text). -/
def cl (T : Nat → Int) (n p : Nat) : Nat :=
  if lsz (T p) ≤ n - p then (if good T p = true then lsz (T p) else 1) else 1

theorem lsz_pos (b : Int) : 1 ≤ lsz b ∧ lsz b ≤ 4 := by unfold lsz; split <;> (try split) <;> (try split) <;> omega
theorem cl_pos (T : Nat → Int) (n p : Nat) : 1 ≤ cl T n p ∧ cl T n p ≤ 4 := by
  have := lsz_pos (T p); unfold cl; split <;> (try split) <;> omega
theorem cl_le (T : Nat → Int) (n p : Nat) (h : p < n) : p + cl T n p ≤ n := by
  have := lsz_pos (T p); unfold cl; split <;> (try split) <;> omega

/-- The model's number of m bytes. -/
def v0 (b : Int) (m : Nat) : Int :=
  if m = 2 ∧ b / 32 = 6 then b % 32 else if m = 3 ∧ b / 16 = 14 then b % 16 else if m = 4 ∧ b / 8 = 30 then b % 8 else -1
def acc (T : Nat → Int) (p : Nat) (v : Int) : Nat → Int
  | 0 => v
  | k + 1 => acc T p v k * 64 + T (p + (k + 1)) % 64
def conts (T : Nat → Int) (p m : Nat) : Bool := decide (∀ j, j < m - 1 → T (p + (j + 1)) / 64 = 2)
def lval (T : Nat → Int) (n p m : Nat) : Int :=
  if n < p + m then -1 else if v0 (T p) m < 0 then -1 else if conts T p m = true then acc T p (v0 (T p) m) (m - 1) else -1
def gd (v : Int) (m : Nat) : Bool :=
  if m = 2 then decide (128 ≤ v) else if m = 3 then decide (2048 ≤ v ∧ (v < 55296 ∨ 57343 < v)) else decide (65536 ≤ v ∧ v ≤ 1114111)
def yes (T : Nat → Int) (n p m : Nat) : Bool := decide (0 ≤ lval T n p m) && gd (lval T n p m) m
def scl (T : Nat → Int) (n p : Nat) : Nat :=
  if yes T n p 2 = true then 2 else if yes T n p 3 = true then 3 else if yes T n p 4 = true then 4 else 1

theorem acc_bd (T : Nat → Int) (p : Nat) (v : Int) (h0 : 0 ≤ v) (h1 : v ≤ 31) (k : Nat) (hk : k ≤ 4) : 0 ≤ acc T p v k ∧ acc T p v k ≤ 1000000000 := by
  match k, hk with
  | 0, _ => simp only [acc]; omega
  | 1, _ => simp only [acc]; omega
  | 2, _ => simp only [acc]; omega
  | 3, _ => simp only [acc]; omega
  | 4, _ => simp only [acc]; omega

theorem v0_bd (b : Int) (m : Nat) : -1 ≤ v0 b m ∧ v0 b m ≤ 31 := by unfold v0; split <;> (try split) <;> (try split) <;> omega

theorem good_iff (T : Nat → Int) (p : Nat) : good T p = true ↔ (1 < lsz (T p) → lo2 (T p) ≤ T (p + 1) ∧ T (p + 1) ≤ hi2 (T p)) ∧ (2 < lsz (T p) → 128 ≤ T (p + 2) ∧ T (p + 2) ≤ 191) ∧ (3 < lsz (T p) → 128 ≤ T (p + 3) ∧ T (p + 3) ≤ 191) := by
  unfold good
  rw [decide_eq_true_iff]
  have := lsz_pos (T p)
  constructor
  · intro h
    refine ⟨fun hl => ?_, fun hl => ?_, fun hl => ?_⟩
    · have := h 0 (by omega); simpa [loB, hiB] using this
    · have := h 1 (by omega); simpa [loB, hiB] using this
    · have := h 2 (by omega); simpa [loB, hiB] using this
  · rintro ⟨g1, g2, g3⟩ j hj
    match j, hj with
    | 0, hj => have := g1 (by omega); simpa [loB, hiB] using this
    | 1, hj => have := g2 (by omega); simpa [loB, hiB] using this
    | 2, hj => have := g3 (by omega); simpa [loB, hiB] using this
    | j + 3, hj => omega

theorem conts_iff (T : Nat → Int) (p m : Nat) (hm : m ≤ 4) : conts T p m = true ↔ (1 < m → T (p + 1) / 64 = 2) ∧ (2 < m → T (p + 2) / 64 = 2) ∧ (3 < m → T (p + 3) / 64 = 2) := by
  unfold conts
  rw [decide_eq_true_iff]
  constructor
  · intro h
    exact ⟨fun hl => h 0 (by omega), fun hl => h 1 (by omega), fun hl => h 2 (by omega)⟩
  · rintro ⟨g1, g2, g3⟩ j hj
    match j, hj with
    | 0, hj => exact g1 (by omega)
    | 1, hj => exact g2 (by omega)
    | 2, hj => exact g3 (by omega)
    | j + 3, hj => omega

theorem lsz_iff2 (b : Int) : lsz b = 2 ↔ 194 ≤ b ∧ b ≤ 223 := by
  unfold lsz; split <;> (try split) <;> (try split) <;> omega
theorem lsz_iff3 (b : Int) : lsz b = 3 ↔ 224 ≤ b ∧ b ≤ 239 := by
  unfold lsz; split <;> (try split) <;> (try split) <;> omega
theorem lsz_iff4 (b : Int) : lsz b = 4 ↔ 240 ≤ b ∧ b ≤ 244 := by
  unfold lsz; split <;> (try split) <;> (try split) <;> omega

theorem v0_2 (b : Int) : v0 b 2 = if b / 32 = 6 then b % 32 else -1 := by unfold v0; simp
theorem v0_3 (b : Int) : v0 b 3 = if b / 16 = 14 then b % 16 else -1 := by unfold v0; simp
theorem v0_4 (b : Int) : v0 b 4 = if b / 8 = 30 then b % 8 else -1 := by unfold v0; simp

theorem gd_2 (v : Int) : gd v 2 = decide (128 ≤ v) := by simp [gd]
theorem gd_3 (v : Int) : gd v 3 = decide (2048 ≤ v ∧ (v < 55296 ∨ 57343 < v)) := by simp [gd]
theorem gd_4 (v : Int) : gd v 4 = decide (65536 ≤ v ∧ v ≤ 1114111) := by simp [gd]
theorem lo2_eq (b : Int) : (b = 224 ∧ lo2 b = 160) ∨ (b = 240 ∧ lo2 b = 144) ∨ (b ≠ 224 ∧ b ≠ 240 ∧ lo2 b = 128) := by
  unfold lo2; split <;> (try split) <;> (try split) <;> omega
theorem hi2_eq (b : Int) : (b = 237 ∧ hi2 b = 159) ∨ (b = 244 ∧ hi2 b = 143) ∨ (b ≠ 237 ∧ b ≠ 244 ∧ hi2 b = 191) := by
  unfold hi2; split <;> (try split) <;> (try split) <;> (try split) <;> omega

theorem yes2 (T : Nat → Int) (n p : Nat) (hb : ∀ i, 0 ≤ T i ∧ T i ≤ 255) : yes T n p 2 = true ↔ p + 2 ≤ n ∧ lsz (T p) = 2 ∧ good T p = true := by
  have h0 := hb p
  have h1 := hb (p + 1)
  rw [good_iff, lsz_iff2]
  have hc := conts_iff T p 2 (by omega)
  have l2 := lsz_iff2 (T p)
  have e1 := lo2_eq (T p)
  have e2 := hi2_eq (T p)
  unfold yes lval
  rw [v0_2, gd_2]
  generalize lo2 (T p) = lw at *
  generalize hi2 (T p) = hw at *
  generalize lsz (T p) = sz at *
  generalize T p = b at *
  simp only [Bool.and_eq_true, decide_eq_true_iff, acc]
  generalize T (p + 1) = c at *
  generalize T (p + 2) = d at *
  generalize T (p + 3) = e at *
  by_cases hn : n < p + 2
  · simp only [hn, if_true]; omega
  · simp only [hn, if_false]
    by_cases hk : b / 32 = 6
    · simp only [hk, if_true]
      rw [if_neg (by omega)]
      have hc' : conts T p 2 = true ↔ c / 64 = 2 := by rw [hc]; constructor <;> intro h <;> omega
      clear hc
      by_cases hcc : conts T p 2 = true
      · have hd := hc'.1 hcc
        clear hc'
        simp only [hcc, if_true]
        clear hcc
        rcases e1 with e1 | e1 | e1 <;> rcases e2 with e2 | e2 | e2 <;> constructor
        all_goals first
          | (intro h; exact ⟨by omega, by omega, fun _ => by omega, fun _ => by omega, fun _ => by omega⟩)
          | (rintro ⟨a1, a2, a3, a4, a5⟩; have hs := l2.2 a2; have b1 := a3 (by omega); omega)
      · have hd : ¬ (c / 64 = 2) := fun q => hcc (hc'.2 q)
        clear hc'
        simp only [hcc, Bool.false_eq_true, if_false]
        clear hcc
        constructor
        · intro h; omega
        · rintro ⟨a1, a2, a3, a4, a5⟩
          have hs := l2.2 a2
          have b1 := a3 (by omega)
          exact absurd (by omega) hd
    · simp only [hk, if_false]
      omega

theorem yes3 (T : Nat → Int) (n p : Nat) (hb : ∀ i, 0 ≤ T i ∧ T i ≤ 255) : yes T n p 3 = true ↔ p + 3 ≤ n ∧ lsz (T p) = 3 ∧ good T p = true := by
  have h0 := hb p
  have h1 := hb (p + 1)
  have h2 := hb (p + 2)
  rw [good_iff, lsz_iff3]
  have hc := conts_iff T p 3 (by omega)
  have l2 := lsz_iff3 (T p)
  have e1 := lo2_eq (T p)
  have e2 := hi2_eq (T p)
  unfold yes lval
  rw [v0_3, gd_3]
  generalize lo2 (T p) = lw at *
  generalize hi2 (T p) = hw at *
  generalize lsz (T p) = sz at *
  generalize T p = b at *
  simp only [Bool.and_eq_true, decide_eq_true_iff, acc]
  generalize T (p + 1) = c at *
  generalize T (p + 2) = d at *
  generalize T (p + 3) = e at *
  by_cases hn : n < p + 3
  · simp only [hn, if_true]; omega
  · simp only [hn, if_false]
    by_cases hk : b / 16 = 14
    · simp only [hk, if_true]
      rw [if_neg (by omega)]
      have hc' : conts T p 3 = true ↔ c / 64 = 2 ∧ d / 64 = 2 := by rw [hc]; constructor <;> intro h <;> omega
      clear hc
      by_cases hcc : conts T p 3 = true
      · have hd := hc'.1 hcc
        clear hc'
        simp only [hcc, if_true]
        clear hcc
        rcases e1 with e1 | e1 | e1 <;> rcases e2 with e2 | e2 | e2 <;> constructor
        all_goals first
          | (intro h; exact ⟨by omega, by omega, fun _ => by omega, fun _ => by omega, fun _ => by omega⟩)
          | (rintro ⟨a1, a2, a3, a4, a5⟩; have hs := l2.2 a2; have b1 := a3 (by omega); have b2 := a4 (by omega); omega)
      · have hd : ¬ (c / 64 = 2 ∧ d / 64 = 2) := fun q => hcc (hc'.2 q)
        clear hc'
        simp only [hcc, Bool.false_eq_true, if_false]
        clear hcc
        constructor
        · intro h; omega
        · rintro ⟨a1, a2, a3, a4, a5⟩
          have hs := l2.2 a2
          have b1 := a3 (by omega)
          have b2 := a4 (by omega)
          exact absurd ⟨by omega, by omega⟩ hd
    · simp only [hk, if_false]
      omega

theorem yes4 (T : Nat → Int) (n p : Nat) (hb : ∀ i, 0 ≤ T i ∧ T i ≤ 255) : yes T n p 4 = true ↔ p + 4 ≤ n ∧ lsz (T p) = 4 ∧ good T p = true := by
  have h0 := hb p
  have h1 := hb (p + 1)
  have h2 := hb (p + 2)
  have h3 := hb (p + 3)
  rw [good_iff, lsz_iff4]
  have hc := conts_iff T p 4 (by omega)
  have l2 := lsz_iff4 (T p)
  have e1 := lo2_eq (T p)
  have e2 := hi2_eq (T p)
  unfold yes lval
  rw [v0_4, gd_4]
  generalize lo2 (T p) = lw at *
  generalize hi2 (T p) = hw at *
  generalize lsz (T p) = sz at *
  generalize T p = b at *
  simp only [Bool.and_eq_true, decide_eq_true_iff, acc]
  generalize T (p + 1) = c at *
  generalize T (p + 2) = d at *
  generalize T (p + 3) = e at *
  by_cases hn : n < p + 4
  · simp only [hn, if_true]; omega
  · simp only [hn, if_false]
    by_cases hk : b / 8 = 30
    · simp only [hk, if_true]
      rw [if_neg (by omega)]
      have hc' : conts T p 4 = true ↔ c / 64 = 2 ∧ d / 64 = 2 ∧ e / 64 = 2 := by rw [hc]; constructor <;> intro h <;> omega
      clear hc
      by_cases hcc : conts T p 4 = true
      · have hd := hc'.1 hcc
        clear hc'
        simp only [hcc, if_true]
        clear hcc
        rcases e1 with e1 | e1 | e1 <;> rcases e2 with e2 | e2 | e2 <;> constructor
        all_goals first
          | (intro h; exact ⟨by omega, by omega, fun _ => by omega, fun _ => by omega, fun _ => by omega⟩)
          | (rintro ⟨a1, a2, a3, a4, a5⟩; have hs := l2.2 a2; have b1 := a3 (by omega); have b2 := a4 (by omega); have b3 := a5 (by omega); omega)
      · have hd : ¬ (c / 64 = 2 ∧ d / 64 = 2 ∧ e / 64 = 2) := fun q => hcc (hc'.2 q)
        clear hc'
        simp only [hcc, Bool.false_eq_true, if_false]
        clear hcc
        constructor
        · intro h; omega
        · rintro ⟨a1, a2, a3, a4, a5⟩
          have hs := l2.2 a2
          have b1 := a3 (by omega)
          have b2 := a4 (by omega)
          have b3 := a5 (by omega)
          exact absurd ⟨by omega, by omega, by omega⟩ hd
    · simp only [hk, if_false]
      omega

/-- The model's size is the program's. -/
theorem scl_eq (T : Nat → Int) (n p : Nat) (hp : p < n) (hb : ∀ i, 0 ≤ T i ∧ T i ≤ 255) : scl T n p = cl T n p := by
  have y2 := yes2 T n p hb
  have y3 := yes3 T n p hb
  have y4 := yes4 T n p hb
  have hl := lsz_pos (T p)
  unfold scl cl
  by_cases hg : good T p = true
  · simp only [hg, and_true] at y2 y3 y4
    simp only [hg, if_true]
    generalize lsz (T p) = sz at *
    split <;> (try split) <;> (try split) <;> (try split) <;> simp_all <;> omega
  · simp only [hg] at y2 y3 y4
    simp [y2, y3, y4]
    intro h1 h2; exact absurd h2 hg

/-- Where the character number c (from 0) behind f begins. -/
def pos (T : Nat → Int) (n f : Nat) : Nat → Nat
  | 0 => f
  | c + 1 => pos T n f c + cl T n (pos T n f c)

theorem pos_lt (T : Nat → Int) (n f c : Nat) : pos T n f c < pos T n f (c + 1) := by
  have := (cl_pos T n (pos T n f c)).1
  simp only [pos]; omega
theorem pos_mono (T : Nat → Int) (n f c d : Nat) (h : c ≤ d) : pos T n f c ≤ pos T n f d := by
  induction d with
  | zero => obtain rfl : c = 0 := by omega
            exact Nat.le_refl _
  | succ d ih =>
    by_cases e : c = d + 1
    · subst e; exact Nat.le_refl _
    · have := pos_lt T n f d
      have := ih (by omega)
      omega
theorem pos_strict (T : Nat → Int) (n f c d : Nat) (h : c < d) : pos T n f c < pos T n f d :=
  Nat.lt_of_lt_of_le (pos_lt T n f c) (pos_mono T n f (c + 1) d h)
theorem pos_ge (T : Nat → Int) (n f c : Nat) : f + c ≤ pos T n f c := by
  induction c with
  | zero => exact Nat.le_refl _
  | succ c ih => have := pos_lt T n f c; omega

/-- The number of characters behind f that begin before off. -/
def Col (T : Nat → Int) (n f off c : Nat) : Prop := (∀ j, j < c → pos T n f j < off) ∧ off ≤ pos T n f c
theorem Col.unique {T : Nat → Int} {n f off c d : Nat} (h : Col T n f off c) (k : Col T n f off d) : c = d := by
  rcases Nat.lt_trichotomy c d with e | e | e
  · have := k.1 c e; have := h.2; omega
  · exact e
  · have := h.1 d e; have := k.2; omega

/-- A line begins at f and holds off. -/
def Start (T : Nat → Int) (off f : Nat) : Prop := f ≤ off ∧ (f = 0 ∨ T (f - 1) = 10) ∧ ∀ j, f ≤ j → j < off → T j ≠ 10
theorem Start.unique {T : Nat → Int} {off f g : Nat} (h : Start T off f) (k : Start T off g) : f = g := by
  obtain ⟨h1, h2, h3⟩ := h
  obtain ⟨k1, k2, k3⟩ := k
  rcases Nat.lt_trichotomy f g with e | e | e
  · rcases k2 with k2 | k2
    · omega
    · exact absurd k2 (h3 (g - 1) (by omega) (by omega))
  · exact e
  · rcases h2 with h2 | h2
    · omega
    · exact absurd h2 (k3 (f - 1) (by omega) (by omega))

/-- How many newlines stand before k. -/
def cnt (T : Nat → Int) : Nat → Nat
  | 0 => 0
  | k + 1 => if T k = 10 then cnt T k + 1 else cnt T k
theorem cnt_le (T : Nat → Int) (k : Nat) : cnt T k ≤ k := by
  induction k with
  | zero => exact Nat.le_refl _
  | succ k ih => simp only [cnt]; split <;> omega
theorem cnt_same (T : Nat → Int) (f k : Nat) (h : f ≤ k) (hn : ∀ j, f ≤ j → j < k → T j ≠ 10) : cnt T k = cnt T f := by
  induction k with
  | zero => obtain rfl : f = 0 := by omega
            rfl
  | succ k ih =>
    by_cases e : f = k + 1
    · subst e; rfl
    · simp only [cnt]
      rw [if_neg (hn k (by omega) (by omega))]
      exact ih (by omega) (fun j h1 h2 => hn j h1 (by omega))
theorem cnt_nl (T : Nat → Int) (k : Nat) (h : T k = 10) : cnt T (k + 1) = cnt T k + 1 := by simp only [cnt, if_pos h]

/-- In a line that ends at e (a newline, or the end of the text) the characters are those of the text. -/
theorem cl_body (T : Nat → Int) (n f m p : Nat) (hp : p < m) (hm : f + m ≤ n) (he : f + m < n → T (f + m) = 10) : cl (fun i => T (f + i)) m p = cl T n (f + p) := by
  have hg : good (fun i => T (f + i)) p = good T (f + p) := by
    unfold good
    have e : ∀ j, f + (p + 1 + j) = f + p + 1 + j := fun j => by omega
    simp only [e]
  have hl := lsz_pos (T (f + p))
  unfold cl
  rw [hg]
  by_cases h1 : lsz (T (f + p)) ≤ m - p
  · rw [if_pos h1, if_pos (show lsz (T (f + p)) ≤ n - (f + p) by omega)]
  · rw [if_neg h1]
    by_cases h2 : lsz (T (f + p)) ≤ n - (f + p)
    · rw [if_pos h2]
      have hnl := he (by omega)
      have hbad : ¬ good T (f + p) = true := by
        intro hgd
        unfold good at hgd
        have := of_decide_eq_true hgd (m - p - 1) (by omega)
        have e : f + p + 1 + (m - p - 1) = f + m := by omega
        rw [e, hnl] at this
        have hlo : 128 ≤ loB (T (f + p)) (m - p - 1) := by
          unfold loB lo2
          split <;> (try split) <;> (try split) <;> (try split) <;> omega
        omega
      rw [if_neg hbad]
    · rw [if_neg h2]

theorem pos_body (T : Nat → Int) (n f m c : Nat) (hm : f + m ≤ n) (he : f + m < n → T (f + m) = 10) (hc : ∀ j, j < c → pos (fun i => T (f + i)) m 0 j < m) :
    pos T n f c = f + pos (fun i => T (f + i)) m 0 c := by
  induction c with
  | zero => rfl
  | succ c ih =>
    have ih' := ih (fun j hj => hc j (by omega))
    simp only [pos]
    rw [ih', cl_body T n f m _ (hc c (by omega)) hm he]
    omega

end Go.Proofs.Ytcllnadfbmkigaa.M
