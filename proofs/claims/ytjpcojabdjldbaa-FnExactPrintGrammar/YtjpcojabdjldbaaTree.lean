/-
  Plain mathematics: expressions as trees, and their texts.
-/
import Derived.Test.YtjpcojabdjldbaaFold
namespace Go.Proofs.Ytjpcojabdjldbaa.M
set_option linter.unusedVariables false

inductive TX where
  | empty
  | set (n : Nat) (S : Nat → Int)
  | ref (s : ByteArray)
  | thr (s : ByteArray)
  | seq (x y : TX)
  | alt (x y : TX)
  | star (x : TX)
  | not (x : TX)
instance : Inhabited TX := ⟨.empty⟩

def TX.bind : TX → Int
  | .seq _ _ => 1
  | .alt _ _ => 0
  | .star _ => 3
  | .not _ => 2
  | _ => 4

def b1 (x : UInt8) : ByteArray := ⟨#[x]⟩
def hexD (v : Int) : UInt8 := if v < 10 then UInt8.ofNat (48 + v.toNat) else UInt8.ofNat (87 + v.toNat)
def byteT (b : Int) : ByteArray :=
  if b = 10 then ⟨#[92, 110]⟩ else if b = 9 then ⟨#[92, 116]⟩ else if b = 13 then ⟨#[92, 114]⟩
  else if b = 92 ∨ b = 34 ∨ b = 91 ∨ b = 93 ∨ b = 45 ∨ b = 94 then ⟨#[92, UInt8.ofNat b.toNat]⟩
  else if 32 ≤ b ∧ b ≤ 126 then ⟨#[UInt8.ofNat b.toNat]⟩
  else ⟨#[92, 120, hexD (b / 16), hexD (b % 16)]⟩
def pairT (lo hi : Int) : ByteArray := byteT lo ++ (if lo + 1 < hi then b1 45 else ByteArray.empty) ++ (if lo < hi then byteT hi else ByteArray.empty)
def midT (S : Nat → Int) : Nat → ByteArray
  | 0 => ByteArray.empty
  | k + 1 => midT S k ++ pairT (S (2 * k)) (S (2 * k + 1))
def setT (n : Nat) (S : Nat → Int) : ByteArray :=
  if n = 2 ∧ S 0 = 0 ∧ S 1 = 255 then b1 46 else if n = 2 ∧ S 0 = S 1 then b1 34 ++ byteT (S 0) ++ b1 34
  else b1 91 ++ midT S (n / 2) ++ b1 93

def grp (c : Bool) (s : ByteArray) : ByteArray := if c then b1 40 ++ s ++ b1 41 else s
def TX.text : TX → ByteArray
  | .empty => ⟨#[34, 34]⟩
  | .set n S => setT n S
  | .ref s => s
  | .thr s => b1 94 ++ s
  | .seq x y => grp (x.bind < 1) x.text ++ b1 32 ++ grp (y.bind < 2) y.text
  | .alt x y => x.text ++ ⟨#[32, 47, 32]⟩ ++ grp (y.bind < 1) y.text
  | .star x => grp (x.bind < 4) x.text ++ b1 42
  | .not x => b1 33 ++ grp (x.bind < 2) x.text
theorem TX.bind_pos (t : TX) : 0 ≤ t.bind := by cases t <;> simp [TX.bind]
theorem TX.bind_le (t : TX) : t.bind ≤ 4 := by cases t <;> simp [TX.bind]

/-- The tree of an element, by those of its operands: rn and ln tell the names. -/
def nodeT (rn ln : Nat → ByteArray) (o : OpD) (x y : TX) : TX :=
  if o.kind = 1 then .set o.sl o.set else if o.kind = 2 then .ref (rn o.arg.toNat) else if o.kind = 3 then .thr (ln o.arg.toNat)
  else if o.kind = 4 then .seq x y else if o.kind = 5 then .alt x y else if o.kind = 6 then .star x else if o.kind = 7 then .not x else .empty
def bindK (k : Int) : Int := if k = 4 then 1 else if k = 5 then 0 else if k = 6 then 3 else if k = 7 then 2 else 4
theorem nodeT_bind (rn ln : Nat → ByteArray) (o : OpD) (x y : TX) : (nodeT rn ln o x y).bind = bindK o.kind := by
  unfold nodeT bindK
  by_cases h1 : o.kind = 1
  · simp [h1, TX.bind]
  · by_cases h2 : o.kind = 2
    · simp [h2, TX.bind]
    · by_cases h3 : o.kind = 3
      · simp [h3, TX.bind]
      · by_cases h4 : o.kind = 4
        · simp [h4, TX.bind]
        · by_cases h5 : o.kind = 5
          · simp [h5, TX.bind]
          · by_cases h6 : o.kind = 6
            · simp [h6, TX.bind]
            · by_cases h7 : o.kind = 7
              · simp [h7, TX.bind]
              · simp [h1, h2, h3, h4, h5, h6, h7, TX.bind]

/-! ### How long the texts are -/
def TX.sz : TX → Nat
  | .seq x y => x.sz + y.sz + 1
  | .alt x y => x.sz + y.sz + 1
  | .star x => x.sz + 1
  | .not x => x.sz + 1
  | _ => 1
/-- The sets are canonical, the names not too long. -/
def TX.Fine : TX → Prop
  | .empty => True
  | .set n S => Canon n S
  | .ref s => 0 < s.size ∧ s.size ≤ 32
  | .thr s => 0 < s.size ∧ s.size ≤ 32
  | .seq x y => x.Fine ∧ y.Fine
  | .alt x y => x.Fine ∧ y.Fine
  | .star x => x.Fine
  | .not x => x.Fine
theorem b1_size (x : UInt8) : (b1 x).size = 1 := rfl
theorem emp_size : ByteArray.empty.size = 0 := rfl
theorem byteT_size (b : Int) : (byteT b).size ≤ 4 := by
  unfold byteT
  split
  · simp [ByteArray.size]
  · split
    · simp [ByteArray.size]
    · split
      · simp [ByteArray.size]
      · split
        · simp [ByteArray.size]
        · split <;> simp [ByteArray.size]
theorem pairT_size (lo hi : Int) : (pairT lo hi).size ≤ 9 := by
  unfold pairT
  have h1 := byteT_size lo
  have h2 := byteT_size hi
  rw [ByteArray.size_append, ByteArray.size_append]
  have e1 := b1_size 45
  have e2 := emp_size
  split <;> split <;> omega
theorem midT_size (S : Nat → Int) (k : Nat) : (midT S k).size ≤ 9 * k := by
  induction k with
  | zero => simp [midT]
  | succ k ih =>
    have := pairT_size (S (2 * k)) (S (2 * k + 1))
    rw [midT, ByteArray.size_append]
    omega
theorem canon_len {n : Nat} {S : Nat → Int} (h : Canon n S) : n ≤ 256 := by
  obtain ⟨h1, h2⟩ := h
  obtain ⟨k, rfl⟩ : ∃ k, n = 2 * k := ⟨n / 2, by omega⟩
  have hp := (pairs_canon S k).2 h2
  have key : ∀ j, j < k → 2 * (j : Int) ≤ S (2 * j) := by
    intro j
    induction j with
    | zero => intro hj; have := (hp 0 hj).1; simp [least] at this; simpa using this
    | succ j ih =>
      intro hj
      have a := ih (by omega)
      have b := (hp j (by omega)).2.1
      have c := (hp (j + 1) hj).1
      unfold least at c
      rw [if_neg (by omega), show 2 * (j + 1) - 1 = 2 * j + 1 by omega] at c
      push_cast
      omega
  by_cases hk : k = 0
  · omega
  · have a := key (k - 1) (by omega)
    have b := hp (k - 1) (by omega)
    have := b.2.1
    have := b.2.2
    omega
theorem setT_size {n : Nat} {S : Nat → Int} (h : Canon n S) : (setT n S).size ≤ 1200 := by
  have hn := canon_len h
  have hm := midT_size S (n / 2)
  have hb := byteT_size (S 0)
  unfold setT
  split
  · rw [b1_size]; omega
  · split
    · rw [ByteArray.size_append, ByteArray.size_append, b1_size]; omega
    · rw [ByteArray.size_append, ByteArray.size_append, b1_size, b1_size]; omega
theorem grp_size (c : Bool) (s : ByteArray) : (grp c s).size ≤ s.size + 2 := by
  unfold grp
  split
  · rw [ByteArray.size_append, ByteArray.size_append, b1_size, b1_size]; omega
  · omega
theorem text_size (t : TX) (h : t.Fine) : t.text.size + 8 ≤ 1210 * t.sz := by
  induction t with
  | empty => simp [TX.text, TX.sz, ByteArray.size]
  | set n S => have := setT_size h; simp only [TX.text, TX.sz]; omega
  | ref s => simp only [TX.text, TX.sz, TX.Fine] at *; omega
  | thr s => simp only [TX.text, TX.sz, TX.Fine] at *; rw [ByteArray.size_append, b1_size]; omega
  | seq x y ih1 ih2 =>
    have a := ih1 h.1
    have b := ih2 h.2
    have c := grp_size (x.bind < 1) x.text
    have d := grp_size (y.bind < 2) y.text
    simp only [TX.text, TX.sz]
    rw [ByteArray.size_append, ByteArray.size_append]
    have e : (b1 32).size = 1 := rfl
    omega
  | alt x y ih1 ih2 =>
    have a := ih1 h.1
    have b := ih2 h.2
    have d := grp_size (y.bind < 1) y.text
    simp only [TX.text, TX.sz]
    rw [ByteArray.size_append, ByteArray.size_append]
    have e : (ByteArray.mk #[32, 47, 32]).size = 3 := rfl
    omega
  | star x ih =>
    have a := ih h
    have c := grp_size (x.bind < 4) x.text
    simp only [TX.text, TX.sz]
    rw [ByteArray.size_append]
    have e : (b1 42).size = 1 := rfl
    omega
  | not x ih =>
    have a := ih h
    have c := grp_size (x.bind < 2) x.text
    simp only [TX.text, TX.sz]
    rw [ByteArray.size_append]
    have e : (b1 33).size = 1 := rfl
    omega

end Go.Proofs.Ytjpcojabdjldbaa.M
