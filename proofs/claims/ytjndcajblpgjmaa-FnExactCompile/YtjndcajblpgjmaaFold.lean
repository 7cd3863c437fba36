/-
  Plain mathematics of expressions read from the left with a stack, of their being nullable, and of least marks.
-/
import Derived.Test.YtjndcajblpgjmaaPure
namespace Go.Proofs.Ytjndcajblpgjmaa.M

/-! ### The stack: each value with the place where its expression begins -/
def stp {α : Type} [Inhabited α] (f : OpD → α → α → α) (o : OpD) (i : Nat) (s : List (Nat × α)) : List (Nat × α) :=
  if ar o.kind = 2 then
    match s with
    | (_, y) :: (s1, x) :: r => (s1, f o x y) :: r
    | _ => []
  else if ar o.kind = 1 then
    match s with
    | (s1, x) :: r => (s1, f o x default) :: r
    | _ => []
  else (i, f o default default) :: s

def stk {α : Type} [Inhabited α] (f : OpD → α → α → α) (B : Nat → OpD) : Nat → List (Nat × α)
  | 0 => []
  | i + 1 => stp f (B i) i (stk f B i)

theorem ar_cases (k : Int) : ar k = 0 ∨ ar k = 1 ∨ ar k = 2 := by unfold ar; split <;> (try split) <;> simp

/-- Every element up to i finds its operands. -/
def Fed (B : Nat → OpD) (i : Nat) : Prop := ∀ j, j < i → ar (B j).kind ≤ dep B j
theorem Fed.less {B : Nat → OpD} {i j : Nat} (h : Fed B i) (hj : j ≤ i) : Fed B j := fun k hk => h k (by omega)

section
variable {α : Type} [Inhabited α] (f : OpD → α → α → α) (B : Nat → OpD)

theorem stk_len (i : Nat) (h : Fed B i) : ((stk f B i).length : Int) = dep B i := by
  induction i with
  | zero => rfl
  | succ i ih =>
    have e := ih (h.less (by omega))
    have hi := h i (by omega)
    rw [stk, dep]
    generalize stk f B i = l at *
    rcases ar_cases (B i).kind with h0 | h0 | h0
    · simp [stp, h0]; omega
    · rw [h0] at hi
      match l, e with
      | [], e => simp at e; omega
      | (a, x) :: r, e => simp [stp, h0] at *; omega
    · rw [h0] at hi
      match l, e with
      | [], e => simp at e; omega
      | [(a, x)], e => simp at e; omega
      | (a, x) :: (b, y) :: r, e => simp [stp, h0] at *; omega

theorem stk_cons (i : Nat) (h : Fed B i) (s : Nat) (x : α) (r : List (Nat × α)) (e : stk f B i = (s, x) :: r) :
    s < i ∧ r = stk f B s ∧ ∀ j, s < j → j ≤ i → dep B i ≤ dep B j := by
  induction i using Nat.strongRecOn generalizing s x r with
  | _ i ih =>
    match i, ih, e with
    | 0, ih, e => simp [stk] at e
    | i + 1, ih, e =>
      have hl := stk_len f B i (h.less (by omega))
      have hi := h i (by omega)
      have hd : dep B (i + 1) = dep B i + (1 - ar (B i).kind) := rfl
      rw [stk] at e
      cases hq : stk f B i with
      | nil =>
        rw [hq] at e hl
        simp at hl
        have h0 : ar (B i).kind = 0 := by have := ar_bd (B i).kind; omega
        simp [stp, h0] at e
        obtain ⟨⟨rfl, _⟩, rfl⟩ := e
        refine ⟨by omega, hq.symm, fun j h1 h2 => ?_⟩
        obtain rfl : j = i + 1 := by omega
        exact Int.le_refl _
      | cons p r1 =>
        obtain ⟨s2, y⟩ := p
        obtain ⟨a1, a2, a3⟩ := ih i (by omega) (h.less (by omega)) s2 y r1 hq
        rw [hq] at e
        rcases ar_cases (B i).kind with h0 | h0 | h0
        · simp [stp, h0] at e
          obtain ⟨⟨rfl, _⟩, rfl⟩ := e
          refine ⟨by omega, hq.symm, fun j h1 h2 => ?_⟩
          obtain rfl : j = i + 1 := by omega
          exact Int.le_refl _
        · simp [stp, h0] at e
          obtain ⟨⟨rfl, _⟩, rfl⟩ := e
          refine ⟨by omega, a2, fun j h1 h2 => ?_⟩
          by_cases ej : j = i + 1
          · subst ej; exact Int.le_refl _
          · have := a3 j h1 (by omega); omega
        · match r1, a2, e, hq with
          | [], a2, e, hq => rw [hq] at hl; simp at hl; omega
          | (s1, x1) :: r2, a2, e, hq =>
            simp [stp, h0] at e
            obtain ⟨⟨rfl, _⟩, rfl⟩ := e
            obtain ⟨b1, b2, b3⟩ := ih s2 (by omega) (h.less (by omega)) s1 x1 r2 a2.symm
            have l2 := stk_len f B s2 (h.less (by omega))
            rw [← a2] at l2
            rw [hq] at hl
            simp at l2 hl
            refine ⟨by omega, b2, fun j h1 h2 => ?_⟩
            by_cases ej : j = i + 1
            · subst ej; exact Int.le_refl _
            · by_cases ek : j ≤ s2
              · have := b3 j h1 ek; omega
              · have := a3 j (by omega) (by omega); omega
end

theorem stk_map {α β : Type} [Inhabited α] [Inhabited β] (f : OpD → α → α → α) (f' : OpD → β → β → β) (π : α → β) (hd : π default = default) (h : ∀ o x y, π (f o x y) = f' o (π x) (π y)) (B : Nat → OpD) (i : Nat) :
    stk f' B i = (stk f B i).map (fun p => (p.1, π p.2)) := by
  induction i with
  | zero => rfl
  | succ i ih =>
    rw [stk, stk, ih]
    generalize stk f B i = l
    unfold stp
    split
    · match l with
      | [] => rfl
      | [(a, x)] => rfl
      | (a, x) :: (b, y) :: r => simp [h]
    · split
      · match l with
        | [] => rfl
        | (a, x) :: r => simp [h, hd]
      · simp [h, hd]

theorem stk_congr {α : Type} [Inhabited α] (f f' : OpD → α → α → α) (B : Nat → OpD) (i : Nat) (h : ∀ j, j < i → ∀ x y, f (B j) x y = f' (B j) x y) : stk f B i = stk f' B i := by
  induction i with
  | zero => rfl
  | succ i ih =>
    rw [stk, stk, ih (fun j hj => h j (by omega))]
    unfold stp
    split
    · split
      · rw [h i (by omega)]
      · rfl
    · split
      · split
        · rw [h i (by omega)]
        · rfl
      · rw [h i (by omega)]

/-! ### Nullable -/
/-- The node that an element names. -/
def tg (nr : Nat) (o : OpD) : Nat := if o.kind = 3 then nr + o.arg.toNat else o.arg.toNat
def Names (o : OpD) : Prop := o.kind = 2 ∨ o.kind = 3
instance (o : OpD) : Decidable (Names o) := inferInstanceAs (Decidable (_ ∨ _))

def fN (nr : Nat) (mk : Nat → Bool) (o : OpD) (x y : Bool) : Bool :=
  if o.kind = 1 then false else if Names o then mk (tg nr o) else if o.kind = 4 then x && y else if o.kind = 5 then x || y else if o.kind = 0 ∨ o.kind = 6 ∨ o.kind = 7 then true else false

def top {α : Type} [Inhabited α] (l : List (Nat × α)) : α := match l with | (_, x) :: _ => x | [] => default

def nulB (nr : Nat) (mk : Nat → Bool) (n : Nat) (B : Nat → OpD) : Bool := top (stk (fN nr mk) B n)

/-- The body names the node v. -/
def Uses (nr n : Nat) (B : Nat → OpD) (v : Nat) : Prop := ∃ j, j < n ∧ Names (B j) ∧ tg nr (B j) = v

theorem nulB_congr (nr : Nat) (mk mk' : Nat → Bool) (n : Nat) (B : Nat → OpD) (h : ∀ v, Uses nr n B v → mk v = mk' v) : nulB nr mk n B = nulB nr mk' n B := by
  unfold nulB
  rw [stk_congr (fN nr mk) (fN nr mk') B n]
  intro j hj x y
  unfold fN
  by_cases hn : Names (B j)
  · rw [h _ ⟨j, hj, hn, rfl⟩]
  · simp [hn]

/-- The one list lies below the other, value by value. -/
def Low : List (Nat × Bool) → List (Nat × Bool) → Prop
  | [], [] => True
  | (_, x) :: r, (_, y) :: r' => (x = true → y = true) ∧ Low r r'
  | _, _ => False

theorem stk_low (nr : Nat) (mk mk' : Nat → Bool) (B : Nat → OpD) (h : ∀ v, mk v = true → mk' v = true) (i : Nat) : Low (stk (fN nr mk) B i) (stk (fN nr mk') B i) := by
  have key : ∀ o x y x' y', (x = true → x' = true) → (y = true → y' = true) → fN nr mk o x y = true → fN nr mk' o x' y' = true := by
    intro o x y x' y' h1 h2
    unfold fN
    split
    · simp
    · split
      · exact h _
      · split
        · simp; exact fun a b => ⟨h1 a, h2 b⟩
        · split
          · simp; exact fun a => a.elim (fun q => .inl (h1 q)) (fun q => .inr (h2 q))
          · split <;> simp
  induction i with
  | zero => trivial
  | succ i ih =>
    rw [stk, stk]
    generalize stk (fN nr mk) B i = l at *
    generalize stk (fN nr mk') B i = l' at *
    unfold stp
    split
    · match l, l', ih with
      | [], [], _ => trivial
      | [(a, x)], [(a', x')], _ => trivial
      | (a, x) :: (b, y) :: r, (a', x') :: (b', y') :: r', ih => exact ⟨key _ _ _ _ _ ih.2.1 ih.1, ih.2.2⟩
      | [(a, x)], (a', x') :: (b', y') :: r', ih => exact ih.2.elim
      | (a, x) :: (b, y) :: r, [(a', x')], ih => exact ih.2.elim
    · split
      · match l, l', ih with
        | [], [], _ => trivial
        | (a, x) :: r, (a', x') :: r', ih => exact ⟨key _ _ _ _ _ ih.1 id, ih.2⟩
      · exact ⟨key _ _ _ _ _ id id, ih⟩

theorem nulB_mono (nr : Nat) (mk mk' : Nat → Bool) (h : ∀ v, mk v = true → mk' v = true) (n : Nat) (B : Nat → OpD) (e : nulB nr mk n B = true) : nulB nr mk' n B = true := by
  have := stk_low nr mk mk' B h n
  unfold nulB at *
  match h1 : stk (fN nr mk) B n, h2 : stk (fN nr mk') B n with
  | [], _ => rw [h1] at e; simp [top] at e
  | (a, x) :: r, [] => rw [h1, h2] at this; exact this.elim
  | (a, x) :: r, (a', x') :: r' =>
    rw [h1, h2] at this
    rw [h1] at e
    exact this.1 e

/-! ### Least marks: n nodes, F says what is marked, given marks -/
structure Mono (n : Nat) (F : (Nat → Bool) → Nat → Bool) : Prop where
  mono : ∀ m m', (∀ v, v < n → m v = true → m' v = true) → ∀ v, v < n → F m v = true → F m' v = true

/-- m is closed, and lies in every closed set. -/
structure Least (n : Nat) (F : (Nat → Bool) → Nat → Bool) (m : Nat → Bool) : Prop where
  shut : ∀ v, v < n → F m v = true → m v = true
  low : ∀ t : Nat → Bool, (∀ v, v < n → F t v = true → t v = true) → ∀ v, v < n → m v = true → t v = true

theorem Least.unique {n : Nat} {F : (Nat → Bool) → Nat → Bool} {m m' : Nat → Bool} (h : Least n F m) (h' : Least n F m') : ∀ v, v < n → m v = m' v := by
  intro v hv
  have h1 := h.low m' h'.shut v hv
  have h2 := h'.low m h.shut v hv
  cases e : m v <;> cases e' : m' v <;> simp_all

/-- How many of the first n are marked. -/
def cnt (m : Nat → Bool) : Nat → Nat
  | 0 => 0
  | n + 1 => cnt m n + (if m n then 1 else 0)
theorem cnt_le (m : Nat → Bool) (n : Nat) : cnt m n ≤ n := by
  induction n with
  | zero => simp [cnt]
  | succ n ih => rw [cnt]; split <;> omega
theorem cnt_mono (m m' : Nat → Bool) (n : Nat) (h : ∀ v, v < n → m v = true → m' v = true) : cnt m n ≤ cnt m' n := by
  induction n with
  | zero => simp [cnt]
  | succ n ih =>
    have := ih (fun v hv => h v (by omega))
    have := h n (by omega)
    rw [cnt, cnt]
    split <;> split <;> simp_all <;> omega
theorem cnt_eq (m m' : Nat → Bool) (n : Nat) (h : ∀ v, v < n → m v = true → m' v = true) (e : cnt m n = cnt m' n) : ∀ v, v < n → m' v = true → m v = true := by
  induction n with
  | zero => intro v hv; omega
  | succ n ih =>
    intro v hv hm
    have h1 := cnt_mono m m' n (fun v hv => h v (by omega))
    have h2 := h n (by omega)
    rw [cnt, cnt] at e
    by_cases q : v = n
    · subst q
      rw [if_pos hm] at e
      by_cases q2 : m v = true
      · exact q2
      · rw [if_neg q2] at e; omega
    · refine ih (fun v hv => h v (by omega)) ?_ v (by omega) hm
      by_cases q2 : m n = true
      · rw [if_pos q2, if_pos (h2 q2)] at e; omega
      · rw [if_neg q2] at e
        split at e <;> omega
theorem cnt_with (m : Nat → Bool) (v n : Nat) (h : v < n) (hm : m v = false) : cnt (fun u => m u || u == v) n = cnt m n + 1 := by
  have same : ∀ k, k ≤ v → cnt (fun u => m u || u == v) k = cnt m k := by
    intro k hk
    induction k with
    | zero => rfl
    | succ k ih => rw [cnt, cnt, ih (by omega)]; simp [show ¬ k = v by omega]
  induction n with
  | zero => omega
  | succ n ih =>
    rw [cnt, cnt]
    by_cases e : v = n
    · subst e; rw [same v (Nat.le_refl _)]; simp [hm]
    · rw [ih (by omega)]; simp [show ¬ n = v by omega]; omega

/-- Round by round, from nothing marked. -/
def rnd (F : (Nat → Bool) → Nat → Bool) : Nat → Nat → Bool
  | 0 => fun _ => false
  | k + 1 => F (rnd F k)

theorem rnd_up {n : Nat} {F : (Nat → Bool) → Nat → Bool} (h : Mono n F) (k : Nat) : ∀ v, v < n → rnd F k v = true → rnd F (k + 1) v = true := by
  induction k with
  | zero => intro v hv e; simp [rnd] at e
  | succ k ih => exact h.mono _ _ ih

theorem rnd_least {n : Nat} {F : (Nat → Bool) → Nat → Bool} (h : Mono n F) : Least n F (rnd F n) := by
  -- either it stands still before n, or it grows at every round
  have grow : ∀ k, (∃ j, j ≤ k ∧ ∀ v, v < n → rnd F (j + 1) v = true → rnd F j v = true) ∨ k < cnt (rnd F (k + 1)) n := by
    intro k
    induction k with
    | zero =>
      by_cases q : cnt (rnd F 1) n = 0
      · refine .inl ⟨0, Nat.le_refl _, ?_⟩
        refine cnt_eq _ _ n (rnd_up h 0) ?_
        rw [q]
        have : cnt (rnd F 0) n ≤ cnt (rnd F 1) n := cnt_mono _ _ n (rnd_up h 0)
        omega
      · exact .inr (Nat.pos_of_ne_zero q)
    | succ k ih =>
      rcases ih with ⟨j, hj, q⟩ | ih
      · exact .inl ⟨j, by omega, q⟩
      · by_cases q : cnt (rnd F (k + 1)) n = cnt (rnd F (k + 1 + 1)) n
        · exact .inl ⟨k + 1, Nat.le_refl _, cnt_eq _ _ n (rnd_up h _) q⟩
        · have := cnt_mono _ _ n (rnd_up h (k + 1))
          exact .inr (by omega)
  have still : ∀ j, (∀ v, v < n → rnd F (j + 1) v = true → rnd F j v = true) → ∀ d, ∀ v, v < n → rnd F (j + d + 1) v = true → rnd F (j + d) v = true := by
    intro j hj d
    induction d with
    | zero => exact hj
    | succ d ih => exact h.mono _ _ ih
  refine ⟨?_, ?_⟩
  · rcases grow n with ⟨j, hj, q⟩ | q
    · have := still j q (n - j)
      rw [show j + (n - j) = n by omega] at this
      exact this
    · have := cnt_le (rnd F (n + 1)) n
      omega
  · intro t ht
    have : ∀ k, ∀ v, v < n → rnd F k v = true → t v = true := by
      intro k
      induction k with
      | zero => intro v hv e; simp [rnd] at e
      | succ k ih => intro v hv e; exact ht v hv (h.mono _ _ ih v hv e)
    exact this n

/-! ### The work list -/
structure WI (n : Nat) (F : (Nat → Bool) → Nat → Bool) (wl : List Nat) (m : Nat → Bool) : Prop where
  all : ∀ x, x ∈ wl → x < n
  pend : ∀ v, v < n → m v = false → F m v = true → v ∈ wl
  low : ∀ t : Nat → Bool, (∀ v, v < n → F t v = true → t v = true) → ∀ v, v < n → m v = true → t v = true

theorem WI.start (n : Nat) (F : (Nat → Bool) → Nat → Bool) (wl : List Nat) (h : ∀ x, x ∈ wl ↔ x < n) : WI n F wl (fun _ => false) :=
  ⟨fun x hx => (h x).1 hx, fun v hv _ _ => (h v).2 hv, fun t ht v hv e => by simp at e⟩
theorem WI.done {n : Nat} {F : (Nat → Bool) → Nat → Bool} {m : Nat → Bool} (h : WI n F [] m) : Least n F m :=
  ⟨fun v hv e => by
    cases q : m v with
    | true => rfl
    | false => exact absurd (h.pend v hv q e) (by simp), h.low⟩
theorem WI.skip {n : Nat} {F : (Nat → Bool) → Nat → Bool} {wl : List Nat} {x : Nat} {m : Nat → Bool} (h : WI n F (wl ++ [x]) m) (q : m x = true ∨ F m x = false) : WI n F wl m := by
  refine ⟨fun y hy => h.all y (by simp [hy]), fun v hv h1 h2 => ?_, h.low⟩
  have := h.pend v hv h1 h2
  simp at this
  rcases this with k | rfl
  · exact k
  · rcases q with q | q
    · rw [h1] at q; cases q
    · rw [h2] at q; cases q
theorem WI.mark {n : Nat} {F : (Nat → Bool) → Nat → Bool} {wl us : List Nat} {x : Nat} {m m' : Nat → Bool} (hM : Mono n F) (h : WI n F (wl ++ [x]) m) (q : F m x = true)
    (hm : ∀ v, v < n → m' v = (m v || v == x)) (hu : ∀ u, u ∈ us → u < n) (dp : ∀ v, v < n → F m' v = true → F m v = false → v ∈ us) : WI n F (wl ++ us) m' := by
  have hx : x < n := h.all x (by simp)
  refine ⟨fun y hy => ?_, fun v hv h1 h2 => ?_, fun t ht v hv e => ?_⟩
  · simp at hy
    rcases hy with k | k
    · exact h.all y (by simp [k])
    · exact hu y k
  · rw [hm v hv] at h1
    simp at h1
    cases hf : F m v with
    | false => simp [dp v hv h2 hf]
    | true =>
      have := h.pend v hv h1.1 hf
      simp at this
      rcases this with k | k
      · simp [k]
      · exact absurd k h1.2
  · rw [hm v hv] at e
    simp at e
    rcases e with e | rfl
    · exact h.low t ht v hv e
    · exact ht v hv (hM.mono m t (h.low t ht) v hv q)

/-- What is left to do. -/
def left (n : Nat) (m : Nat → Bool) (wl : Nat) : Nat := (n - cnt m n) * (n + 1) + wl
theorem left_mark {n : Nat} {m m' : Nat → Bool} {x wl us : Nat} (hx : x < n) (h : m x = false) (hm : ∀ v, v < n → m' v = (m v || v == x)) (hu : us ≤ n) : left n m' (wl + us) < left n m (wl + 1) := by
  have e : cnt m' n = cnt m n + 1 := by
    rw [← cnt_with m x n hx h]
    have : ∀ k, k ≤ n → cnt m' k = cnt (fun u => m u || u == x) k := by
      intro k hk
      induction k with
      | zero => rfl
      | succ k ih => rw [cnt, cnt, ih (by omega), hm k (by omega)]
    exact this n (Nat.le_refl _)
  have := cnt_le m' n
  unfold left
  rw [e] at this ⊢
  obtain ⟨d, hd⟩ : ∃ d, n - cnt m n = d + 1 := ⟨n - cnt m n - 1, by omega⟩
  rw [show n - (cnt m n + 1) = d by omega, hd, Nat.add_mul]
  omega

/-- The nodes below k that use the node x. -/
def users (U : Nat → Nat → Bool) (x : Nat) : Nat → List Nat
  | 0 => []
  | k + 1 => users U x k ++ (if U k x then [k] else [])
theorem users_mem (U : Nat → Nat → Bool) (x k v : Nat) : v ∈ users U x k ↔ v < k ∧ U v x = true := by
  induction k with
  | zero => simp [users]
  | succ k ih =>
    rw [users, List.mem_append, ih]
    by_cases e : U k x = true
    · rw [if_pos e]
      simp
      constructor
      · rintro (h | rfl)
        · exact ⟨by omega, h.2⟩
        · exact ⟨by omega, e⟩
      · rintro ⟨h1, h2⟩
        by_cases q : v = k
        · exact .inr q
        · exact .inl ⟨by omega, h2⟩
    · rw [if_neg e]
      simp only [List.not_mem_nil, or_false]
      constructor
      · rintro ⟨h1, h2⟩; exact ⟨by omega, h2⟩
      · rintro ⟨h1, h2⟩
        refine ⟨?_, h2⟩
        by_cases q : v = k
        · subst q; exact absurd h2 e
        · omega
theorem users_len (U : Nat → Nat → Bool) (x k : Nat) : (users U x k).length ≤ k := by
  induction k with
  | zero => simp [users]
  | succ k ih => rw [users, List.length_append]; split <;> simp <;> omega

end Go.Proofs.Ytjndcajblpgjmaa.M
