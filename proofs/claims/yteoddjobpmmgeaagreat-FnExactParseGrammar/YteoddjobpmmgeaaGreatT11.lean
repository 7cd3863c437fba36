import Derived.Test.YteoddjobpmmgeaaGreatT10
set_option linter.unusedVariables false
set_option linter.unusedSimpArgs false
namespace Go.Proofs.YteoddjobpmmgeaaGreat
section
open Go.RowKit
open M (OpD NodeD Gr)
def beg (k : Int) : Prop := k = 33 ∨ k = 38 ∨ k = 94 ∨ k = 46 ∨ k = 40 ∨ k = 110 ∨ k = 34 ∨ k = 91
instance (k : Int) : Decidable (beg k) := by unfold beg; infer_instance
def pos (n : Nat) : List Tok → Nat
  | [] => n
  | x :: _ => x.at_
def rd (n : Nat) : Nat → Nat → PE → List Tok → Sum Nat (PE × List Tok)
  | 0, _, _, l => .inl (pos n l)
  | f + 1, 0, _, l =>
    match l with
    | [] => .inl n
    | x :: r =>
      if x.kind = 110 then .inr (.ref x, r)
      else if x.kind = 34 then .inr (.str x, r)
      else if x.kind = 91 then .inr (.cls x, r)
      else if x.kind = 46 then .inr (.dot x, r)
      else if x.kind = 94 then
        (match r with
         | [] => .inl n
         | y :: r' => if y.kind = 110 then .inr (.thr x y, r') else .inl y.at_)
      else if x.kind = 40 then
        (match rd n f 5 .emp r with
         | .inl p => .inl p
         | .inr (e, r') =>
           match r' with
           | [] => .inl n
           | y :: r'' => if y.kind = 41 then .inr (.grp x e y, r'') else .inl y.at_)
      else .inl x.at_
  | f + 1, 1, _, l =>
    match rd n f 0 .emp l with
    | .inl p => .inl p
    | .inr (e, r) =>
      match r with
      | [] => .inr (e, [])
      | x :: r' => if x.kind = 42 then .inr (.star e x, r') else if x.kind = 63 then .inr (.opt e x, r') else .inr (e, x :: r')
  | f + 1, 2, _, l =>
    match l with
    | [] => .inl n
    | x :: r =>
      if x.kind = 33 then (match rd n f 2 .emp r with | .inl p => .inl p | .inr (e, r') => .inr (.not x e, r'))
      else if x.kind = 38 then (match rd n f 2 .emp r with | .inl p => .inl p | .inr (e, r') => .inr (.amp x e, r'))
      else rd n f 1 .emp (x :: r)
  | f + 1, 3, acc, l =>
    if beg (kAt l 0) then (match rd n f 2 .emp l with | .inl p => .inl p | .inr (e, r) => rd n f 3 (.seq acc e) r) else .inr (acc, l)
  | f + 1, 4, _, l =>
    if beg (kAt l 0) then (match rd n f 2 .emp l with | .inl p => .inl p | .inr (e, r) => rd n f 3 e r) else .inr (.emp, l)
  | f + 1, 5, _, l =>
    match rd n f 4 .emp l with
    | .inl p => .inl p
    | .inr (e, r) => rd n f 6 e r
  | f + 1, 6, acc, l =>
    match l with
    | [] => .inr (acc, [])
    | x :: r =>
      if x.kind = 47 then (match rd n f 4 .emp r with | .inl p => .inl p | .inr (e, r') => rd n f 6 (.alt acc x e) r') else .inr (acc, x :: r)
  | _ + 1, _ + 7, _, l => .inl (pos n l)
theorem wrong_nil (n : Nat) {s : Nat} (d : Nat) (h : s ≠ 0) : wrongF n [] s d = n := by rw [wrongF, if_neg h]
theorem wrong_bad (n : Nat) {x : Tok} {r : List Tok} {s d : Nat} (h : x.kind = 0 ∨ (moveM s d x.kind).1 = 7) : wrongF n (x :: r) s d = x.at_ := by
  rw [wrongF]
  by_cases h0 : x.kind = 0
  · rw [if_pos h0]
  · rw [if_neg h0, if_pos (h.resolve_left h0)]
theorem wrong_step (n : Nat) {x : Tok} {r : List Tok} {s d s' d' : Nat} (h0 : x.kind ≠ 0) (h : moveM s d x.kind = (s', d')) (h7 : s' ≠ 7) : wrongF n (x :: r) s d = wrongF n r s' d' := by
  rw [wrongF, if_neg h0, h, if_neg h7]
def St (s : Nat) : Prop := s = 3 ∨ s = 4 ∨ s = 6
theorem mv_prim {s d : Nat} {k : Int} (hs : St s) (hk : k = 110 ∨ k = 34 ∨ k = 91 ∨ k = 46) : moveM s d k = (6, d) := by
  rcases hs with rfl | rfl | rfl <;> rcases hk with rfl | rfl | rfl | rfl <;> rfl
theorem mv_pre {s d : Nat} {k : Int} (hs : St s) (hk : k = 33 ∨ k = 38) : moveM s d k = (4, d) := by
  rcases hs with rfl | rfl | rfl <;> rcases hk with rfl | rfl <;> rfl
theorem mv_car {s d : Nat} (hs : St s) : moveM s d 94 = (5, d) := by rcases hs with rfl | rfl | rfl <;> rfl
theorem mv_par {s d : Nat} (hs : St s) : moveM s d 40 = (3, d + 1) := by rcases hs with rfl | rfl | rfl <;> rfl
theorem mv_suf {d : Nat} {k : Int} (hk : k = 42 ∨ k = 63) : moveM 6 d k = (3, d) := by rcases hk with rfl | rfl <;> rfl
theorem mv_bar {s d : Nat} (hs : s = 3 ∨ s = 6) : moveM s d 47 = (3, d) := by rcases hs with rfl | rfl <;> rfl
theorem mv_clo {s d : Nat} (hs : s = 3 ∨ s = 6) : moveM s (d + 1) 41 = (6, d) := by rcases hs with rfl | rfl <;> simp [moveM]
theorem mv_bad4 {d : Nat} {k : Int} (hk : ¬ beg k) : (moveM 4 d k).1 = 7 := by
  unfold beg at hk
  simp only [not_or] at hk
  obtain ⟨h1, h2, h3, h4, h5, h6, h7, h8⟩ := hk
  simp [moveM, h1, h2, h3, h4, h5, h6, h7, h8]
theorem mv_bad5 {d : Nat} {k : Int} (hk : k ≠ 110) : (moveM 5 d k).1 = 7 := by simp [moveM, hk]
theorem mv_badIn {s d : Nat} {k : Int} (hs : s = 3 ∨ s = 6) (hb : ¬ beg k) (h47 : k ≠ 47) (h41 : k ≠ 41) (hsuf : s = 6 → k ≠ 42 ∧ k ≠ 63) : (moveM s (d + 1) k).1 = 7 := by
  unfold beg at hb
  simp only [not_or] at hb
  obtain ⟨h1, h2, h3, h4, h5, h6, h7, h8⟩ := hb
  rcases hs with rfl | rfl
  · simp [moveM, h1, h2, h3, h4, h5, h6, h7, h8, h47, h41]
  · obtain ⟨q1, q2⟩ := hsuf rfl
    simp [moveM, h1, h2, h3, h4, h5, h6, h7, h8, h47, h41, q1, q2]
def Aft (s : Nat) (r : List Tok) : Prop := (s = 3 ∨ s = 6) ∧ (s = 6 → kAt r 0 ≠ 42 ∧ kAt r 0 ≠ 63)
theorem Aft.st {s : Nat} {r : List Tok} (h : Aft s r) : St s := h.1.elim (fun q => .inl q) (fun q => .inr (.inr q))
def Bg (s : Nat) (l : List Tok) : Prop := St s ∧ (s = 4 ∨ beg (kAt l 0))
theorem st3 : St 3 := .inl rfl
theorem st4 : St 4 := .inr (.inl rfl)
theorem aft3 (r : List Tok) : Aft 3 r := ⟨.inl rfl, fun q => absurd q (by omega)⟩
def R0 (n f : Nat) : Prop := ∀ l, kAt l 0 ≠ 33 → kAt l 0 ≠ 38 → 8 * l.length + 1 < f → (∀ p, rd n f 0 .emp l = .inl p → ∀ s d, Bg s l → wrongF n l s d = (p : Int)) ∧ (∀ e r, rd n f 0 .emp l = .inr (e, r) → e.ok 0 ∧ l = e.tk ++ r ∧ ∀ s d, Bg s l → wrongF n l s d = wrongF n r 6 d)
def R12 (n m k f : Nat) : Prop := ∀ l, (m = 1 → kAt l 0 ≠ 33 ∧ kAt l 0 ≠ 38) → 8 * l.length + k < f → (∀ p, rd n f m .emp l = .inl p → ∀ s d, Bg s l → wrongF n l s d = (p : Int)) ∧ (∀ e r, rd n f m .emp l = .inr (e, r) → e.ok m ∧ l = e.tk ++ r ∧ ∃ s', Aft s' r ∧ ∀ s d, Bg s l → wrongF n l s d = wrongF n r s' d)
def R3 (n f : Nat) : Prop := ∀ acc l s0, acc.ok 3 → Aft s0 l → 8 * l.length + 4 < f → (∀ p, rd n f 3 acc l = .inl p → ∀ d, wrongF n l s0 d = (p : Int)) ∧ (∀ e r, rd n f 3 acc l = .inr (e, r) → e.ok 3 ∧ e.tk ++ r = acc.tk ++ l ∧ ¬ beg (kAt r 0) ∧ ∃ s', Aft s' r ∧ ∀ d, wrongF n l s0 d = wrongF n r s' d)
def R4 (n f : Nat) : Prop := ∀ l, 8 * l.length + 4 < f → (∀ p, rd n f 4 .emp l = .inl p → ∀ d, wrongF n l 3 d = (p : Int)) ∧ (∀ e r, rd n f 4 .emp l = .inr (e, r) → e.ok 4 ∧ l = e.tk ++ r ∧ ¬ beg (kAt r 0) ∧ ∃ s', Aft s' r ∧ ∀ d, wrongF n l 3 d = wrongF n r s' d)
def R5 (n f : Nat) : Prop := ∀ l, 8 * l.length + 6 < f → (∀ p, rd n f 5 .emp l = .inl p → ∀ d, wrongF n l 3 d = (p : Int)) ∧ (∀ e r, rd n f 5 .emp l = .inr (e, r) → e.ok 5 ∧ l = e.tk ++ r ∧ ¬ beg (kAt r 0) ∧ kAt r 0 ≠ 47 ∧ ∃ s', Aft s' r ∧ ∀ d, wrongF n l 3 d = wrongF n r s' d)
def R6 (n f : Nat) : Prop := ∀ acc l s0, acc.ok 5 → Aft s0 l → ¬ beg (kAt l 0) → 8 * l.length + 5 < f → (∀ p, rd n f 6 acc l = .inl p → ∀ d, wrongF n l s0 d = (p : Int)) ∧ (∀ e r, rd n f 6 acc l = .inr (e, r) → e.ok 5 ∧ e.tk ++ r = acc.tk ++ l ∧ ¬ beg (kAt r 0) ∧ kAt r 0 ≠ 47 ∧ ∃ s', Aft s' r ∧ ∀ d, wrongF n l s0 d = wrongF n r s' d)
theorem r0_step {n f : Nat} (h5 : R5 n f) : R0 n (f + 1) := by
  intro l h33 h38 hf
  cases l with
  | nil =>
    simp only [rd]
    exact ⟨(fun p h s d hs => by injection h with h; subst h; exact wrong_nil n d (by rcases hs.1 with rfl | rfl | rfl <;> omega)), (fun e r h => by cases h)⟩
  | cons x r =>
    rw [List.length_cons] at hf
    simp only [rd]
    have leaf : ∀ (T : PE), T.ok 0 → T.tk = [x] → (x.kind = 110 ∨ x.kind = 34 ∨ x.kind = 91 ∨ x.kind = 46) → (∀ p, (Sum.inr (T, r) : Sum Nat (PE × List Tok)) = .inl p → ∀ s d, Bg s (x :: r) → wrongF n (x :: r) s d = (p : Int)) ∧ (∀ e r', (Sum.inr (T, r) : Sum Nat (PE × List Tok)) = .inr (e, r') → e.ok 0 ∧ x :: r = e.tk ++ r' ∧ ∀ s d, Bg s (x :: r) → wrongF n (x :: r) s d = wrongF n r' 6 d) := fun T h1 h2 h3 =>
      ⟨(fun p h => by cases h), (fun e r' h => by
        injection h with h
        injection h with ha hb
        subst ha hb
        exact ⟨h1, by rw [h2]; rfl, fun s d hs => wrong_step n (by omega) (mv_prim hs.1 h3) (by omega)⟩)⟩
    by_cases k1 : x.kind = 110
    · rw [if_pos k1]; exact leaf (.ref x) k1 rfl (.inl k1)
    rw [if_neg k1]
    by_cases k2 : x.kind = 34
    · rw [if_pos k2]; exact leaf (.str x) k2 rfl (.inr (.inl k2))
    rw [if_neg k2]
    by_cases k3 : x.kind = 91
    · rw [if_pos k3]; exact leaf (.cls x) k3 rfl (.inr (.inr (.inl k3)))
    rw [if_neg k3]
    by_cases k4 : x.kind = 46
    · rw [if_pos k4]; exact leaf (.dot x) k4 rfl (.inr (.inr (.inr k4)))
    rw [if_neg k4]
    by_cases k5 : x.kind = 94
    · rw [if_pos k5]
      have st : ∀ s d, St s → wrongF n (x :: r) s d = wrongF n r 5 d := fun s d hs => wrong_step n (by omega) (by rw [k5]; exact mv_car hs) (by omega)
      cases r with
      | nil => exact ⟨(fun p h s d hs => by injection h with h; subst h; rw [st s d hs.1]; exact wrong_nil n d (by omega)), (fun e r h => by cases h)⟩
      | cons y r' =>
        simp only
        by_cases k6 : y.kind = 110
        · rw [if_pos k6]
          refine ⟨(fun p h => by cases h), fun e r2 h => ?_⟩
          injection h with h
          injection h with ha hb
          subst ha hb
          exact ⟨⟨k5, k6⟩, rfl, fun s d hs => by rw [st s d hs.1]; exact wrong_step n (by omega) (by rw [k6]; rfl) (by omega)⟩
        · rw [if_neg k6]
          exact ⟨(fun p h s d hs => by injection h with h; subst h; rw [st s d hs.1]; exact wrong_bad n (.inr (mv_bad5 k6))), (fun e r h => by cases h)⟩
    rw [if_neg k5]
    by_cases k6 : x.kind = 40
    · rw [if_pos k6]
      have st : ∀ s d, St s → wrongF n (x :: r) s d = wrongF n r 3 (d + 1) := fun s d hs => wrong_step n (by omega) (by rw [k6]; exact mv_par hs) (by omega)
      obtain ⟨a1, a2⟩ := h5 r (by omega)
      cases hq : rd n f 5 .emp r with
      | inl p =>
        simp only
        exact ⟨(fun p' h s d hs => by injection h with h; subst h; rw [st s d hs.1]; exact a1 p hq _), (fun e r h => by cases h)⟩
      | inr q =>
        obtain ⟨e, r'⟩ := q
        obtain ⟨b1, b2, b3, b4, s', b5, b6⟩ := a2 e r' hq
        simp only
        cases r' with
        | nil => exact ⟨(fun p h s d hs => by injection h with h; subst h; rw [st s d hs.1, b6]; exact wrong_nil n _ (by rcases b5.1 with rfl | rfl <;> omega)), (fun e r h => by cases h)⟩
        | cons y r2 =>
          simp only
          by_cases k7 : y.kind = 41
          · rw [if_pos k7]
            refine ⟨(fun p h => by cases h), fun e' r3 h => ?_⟩
            injection h with h
            injection h with ha hb
            subst ha hb
            exact ⟨⟨k6, k7, b1⟩, by rw [b2]; simp [PE.tk], fun s d hs => by rw [st s d hs.1, b6]; exact wrong_step n (by omega) (by rw [k7]; exact mv_clo b5.1) (by omega)⟩
          · rw [if_neg k7]
            exact ⟨(fun p h s d hs => by injection h with h; subst h; rw [st s d hs.1, b6]; exact wrong_bad n (.inr (mv_badIn b5.1 b3 b4 k7 b5.2))), (fun e r h => by cases h)⟩
    · rw [if_neg k6]
      refine ⟨(fun p h s d hs => ?_), (fun e r h => by cases h)⟩
      injection h with h
      subst h
      obtain ⟨h1, h2⟩ := hs
      by_cases hb : beg x.kind
      · rcases hb with q | q | q | q | q | q | q | q
        · exact absurd q h33
        · exact absurd q h38
        · exact absurd q k5
        · exact absurd q k4
        · exact absurd q k6
        · exact absurd q k1
        · exact absurd q k2
        · exact absurd q k3
      · rcases h2 with rfl | h2
        · exact wrong_bad n (.inr (mv_bad4 hb))
        · exact absurd h2 hb
theorem r1_step {n f : Nat} (h0 : R0 n f) : R12 n 1 2 (f + 1) := by
  intro l hk hf
  obtain ⟨a1, a2⟩ := h0 l (hk rfl).1 (hk rfl).2 (by omega)
  simp only [rd]
  cases hq : rd n f 0 .emp l with
  | inl p => exact ⟨(fun p' h => by injection h with h; subst h; exact a1 p hq), (fun e r h => by cases h)⟩
  | inr q =>
    obtain ⟨e, r⟩ := q
    obtain ⟨b1, b2, b3⟩ := a2 e r hq
    simp only
    cases r with
    | nil =>
      refine ⟨(fun p h => by cases h), fun e' r' h => ?_⟩
      injection h with h
      injection h with ha hb
      subst ha hb
      exact ⟨PE.ok_mono e (by omega) b1, b2, 6, ⟨.inr rfl, fun _ => ⟨by show (0 : Int) ≠ 42; omega, by show (0 : Int) ≠ 63; omega⟩⟩, b3⟩
    | cons x r' =>
      simp only
      by_cases k1 : x.kind = 42
      · rw [if_pos k1]
        refine ⟨(fun p h => by cases h), fun e' r2 h => ?_⟩
        injection h with h
        injection h with ha hb
        subst ha hb
        exact ⟨⟨by omega, k1, b1⟩, by rw [b2]; simp [PE.tk], 3, aft3 _, fun s d hs => by rw [b3 s d hs]; exact wrong_step n (by omega) (mv_suf (.inl k1)) (by omega)⟩
      rw [if_neg k1]
      by_cases k2 : x.kind = 63
      · rw [if_pos k2]
        refine ⟨(fun p h => by cases h), fun e' r2 h => ?_⟩
        injection h with h
        injection h with ha hb
        subst ha hb
        exact ⟨⟨by omega, k2, b1⟩, by rw [b2]; simp [PE.tk], 3, aft3 _, fun s d hs => by rw [b3 s d hs]; exact wrong_step n (by omega) (mv_suf (.inr k2)) (by omega)⟩
      · rw [if_neg k2]
        refine ⟨(fun p h => by cases h), fun e' r2 h => ?_⟩
        injection h with h
        injection h with ha hb
        subst ha hb
        exact ⟨PE.ok_mono e (by omega) b1, b2, 6, ⟨.inr rfl, fun _ => ⟨k1, k2⟩⟩, b3⟩
theorem r2_step {n f : Nat} (h1 : R12 n 1 2 f) (h2 : R12 n 2 3 f) : R12 n 2 3 (f + 1) := by
  intro l _ hf
  cases l with
  | nil =>
    simp only [rd]
    exact ⟨(fun p h s d hs => by injection h with h; subst h; exact wrong_nil n d (by rcases hs.1 with rfl | rfl | rfl <;> omega)), (fun e r h => by cases h)⟩
  | cons x r =>
    rw [List.length_cons] at hf
    simp only [rd]
    obtain ⟨a1, a2⟩ := h2 r (fun q => absurd q (by omega)) (by omega)
    have pre : ∀ (T : PE → PE), (x.kind = 33 ∨ x.kind = 38) → (∀ e, e.ok 2 → (T e).ok 2) → (∀ e, (T e).tk = x :: e.tk) → (∀ p : Nat, (match rd n f 2 .emp r with | .inl p => (.inl p : Sum Nat (PE × List Tok)) | .inr (e, r') => .inr (T e, r')) = .inl p → ∀ s d, Bg s (x :: r) → wrongF n (x :: r) s d = (p : Int)) ∧ (∀ e r', (match rd n f 2 .emp r with | .inl p => (.inl p : Sum Nat (PE × List Tok)) | .inr (e, r') => .inr (T e, r')) = .inr (e, r') → e.ok 2 ∧ x :: r = e.tk ++ r' ∧ ∃ s', Aft s' r' ∧ ∀ s d, Bg s (x :: r) → wrongF n (x :: r) s d = wrongF n r' s' d) := fun T hk hT1 hT2 => by
      have st : ∀ s d, St s → wrongF n (x :: r) s d = wrongF n r 4 d := fun s d hs => wrong_step n (by omega) (mv_pre hs hk) (by omega)
      cases hq : rd n f 2 .emp r with
      | inl p => exact ⟨(fun p' h s d hs => by injection h with h; subst h; rw [st s d hs.1]; exact a1 p hq 4 d ⟨st4, .inl rfl⟩), (fun e r h => by cases h)⟩
      | inr q =>
        obtain ⟨e, r'⟩ := q
        obtain ⟨b1, b2, s', b3, b4⟩ := a2 e r' hq
        refine ⟨(fun p h => by cases h), fun e' r2 h => ?_⟩
        injection h with h
        injection h with ha hb
        subst ha hb
        exact ⟨hT1 e b1, by rw [hT2, b2]; rfl, s', b3, fun s d hs => by rw [st s d hs.1]; exact b4 4 d ⟨st4, .inl rfl⟩⟩
    by_cases k1 : x.kind = 33
    · rw [if_pos k1]
      exact pre (.not x) (.inl k1) (fun e h => ⟨by omega, k1, h⟩) (fun e => rfl)
    rw [if_neg k1]
    by_cases k2 : x.kind = 38
    · rw [if_pos k2]
      exact pre (.amp x) (.inr k2) (fun e h => ⟨by omega, k2, h⟩) (fun e => rfl)
    rw [if_neg k2]
    obtain ⟨b1, b2⟩ := h1 (x :: r) (fun _ => ⟨k1, k2⟩) (by rw [List.length_cons]; omega)
    exact ⟨b1, fun e r' h => by
      obtain ⟨c1, c2⟩ := b2 e r' h
      exact ⟨PE.ok_mono e (by omega) c1, c2⟩⟩
theorem r3_step {n f : Nat} (h2 : R12 n 2 3 f) (h3 : R3 n f) : R3 n (f + 1) := by
  intro acc l s0 hacc ha hf
  simp only [rd]
  by_cases hb : beg (kAt l 0)
  · rw [if_pos hb]
    obtain ⟨a1, a2⟩ := h2 l (fun q => absurd q (by omega)) (by omega)
    cases hq : rd n f 2 .emp l with
    | inl p => exact ⟨(fun p' h d => by injection h with h; subst h; exact a1 p hq s0 d ⟨ha.st, .inr hb⟩), (fun e r h => by cases h)⟩
    | inr q =>
      obtain ⟨e, r⟩ := q
      obtain ⟨b1, b2, s', b3, b4⟩ := a2 e r hq
      have hpos := (part_head e b1 []).2.2
      have hlen : l.length = e.tk.length + r.length := by rw [b2, List.length_append]
      obtain ⟨c1, c2⟩ := h3 (.seq acc e) r s' ⟨by omega, hacc, b1⟩ b3 (by omega)
      simp only
      refine ⟨fun p h d => by rw [b4 s0 d ⟨ha.st, .inr hb⟩]; exact c1 p h d, fun e' r' h => ?_⟩
      obtain ⟨d1, d2, d3, s2, d4, d5⟩ := c2 e' r' h
      exact ⟨d1, by rw [d2, b2]; simp [PE.tk], d3, s2, d4, fun d => by rw [b4 s0 d ⟨ha.st, .inr hb⟩]; exact d5 d⟩
  · rw [if_neg hb]
    refine ⟨(fun p h => by cases h), fun e r h => ?_⟩
    injection h with h
    injection h with hx hy
    subst hx hy
    exact ⟨hacc, rfl, hb, s0, ha, fun d => rfl⟩
theorem r4_step {n f : Nat} (h2 : R12 n 2 3 f) (h3 : R3 n f) : R4 n (f + 1) := by
  intro l hf
  simp only [rd]
  by_cases hb : beg (kAt l 0)
  · rw [if_pos hb]
    obtain ⟨a1, a2⟩ := h2 l (fun q => absurd q (by omega)) (by omega)
    cases hq : rd n f 2 .emp l with
    | inl p => exact ⟨(fun p' h d => by injection h with h; subst h; exact a1 p hq 3 d ⟨st3, .inr hb⟩), (fun e r h => by cases h)⟩
    | inr q =>
      obtain ⟨e, r⟩ := q
      obtain ⟨b1, b2, s', b3, b4⟩ := a2 e r hq
      have hpos := (part_head e b1 []).2.2
      have hlen : l.length = e.tk.length + r.length := by rw [b2, List.length_append]
      obtain ⟨c1, c2⟩ := h3 e r s' (PE.ok_mono e (by omega) b1) b3 (by omega)
      simp only
      refine ⟨fun p h d => by rw [b4 3 d ⟨st3, .inr hb⟩]; exact c1 p h d, fun e' r' h => ?_⟩
      obtain ⟨d1, d2, d3, s2, d4, d5⟩ := c2 e' r' h
      exact ⟨PE.ok_mono e' (by omega) d1, by rw [d2, b2], d3, s2, d4, fun d => by rw [b4 3 d ⟨st3, .inr hb⟩]; exact d5 d⟩
  · rw [if_neg hb]
    refine ⟨(fun p h => by cases h), fun e r h => ?_⟩
    injection h with h
    injection h with hx hy
    subst hx hy
    exact ⟨Nat.le_refl 4, rfl, hb, 3, aft3 _, fun d => rfl⟩
theorem r6_step {n f : Nat} (h4 : R4 n f) (h6 : R6 n f) : R6 n (f + 1) := by
  intro acc l s0 hacc ha hnb hf
  cases l with
  | nil =>
    simp only [rd]
    refine ⟨(fun p h => by cases h), fun e r h => ?_⟩
    injection h with h
    injection h with hx hy
    subst hx hy
    exact ⟨hacc, rfl, hnb, by show (0 : Int) ≠ 47; omega, s0, ha, fun d => rfl⟩
  | cons x r =>
    rw [List.length_cons] at hf
    simp only [rd]
    by_cases k1 : x.kind = 47
    · rw [if_pos k1]
      have st : ∀ d, wrongF n (x :: r) s0 d = wrongF n r 3 d := fun d => wrong_step n (by omega) (by rw [k1]; exact mv_bar ha.1) (by omega)
      obtain ⟨a1, a2⟩ := h4 r (by omega)
      cases hq : rd n f 4 .emp r with
      | inl p => exact ⟨(fun p' h d => by injection h with h; subst h; rw [st]; exact a1 p hq d), (fun e r h => by cases h)⟩
      | inr q =>
        obtain ⟨e, r'⟩ := q
        obtain ⟨b1, b2, b3, s', b4, b5⟩ := a2 e r' hq
        have hlen : r.length = e.tk.length + r'.length := by rw [b2, List.length_append]
        obtain ⟨c1, c2⟩ := h6 (.alt acc x e) r' s' ⟨by omega, k1, hacc, b1⟩ b4 b3 (by omega)
        simp only
        refine ⟨fun p h d => by rw [st, b5]; exact c1 p h d, fun e' r2 h => ?_⟩
        obtain ⟨d1, d2, d3, d4, s2, d5, d6⟩ := c2 e' r2 h
        exact ⟨d1, by rw [d2, b2]; simp [PE.tk], d3, d4, s2, d5, fun d => by rw [st, b5]; exact d6 d⟩
    · rw [if_neg k1]
      refine ⟨(fun p h => by cases h), fun e r2 h => ?_⟩
      injection h with h
      injection h with hx hy
      subst hx hy
      exact ⟨hacc, rfl, hnb, k1, s0, ha, fun d => rfl⟩
theorem r5_step {n f : Nat} (h4 : R4 n f) (h6 : R6 n f) : R5 n (f + 1) := by
  intro l hf
  simp only [rd]
  obtain ⟨a1, a2⟩ := h4 l (by omega)
  cases hq : rd n f 4 .emp l with
  | inl p => exact ⟨(fun p' h d => by injection h with h; subst h; exact a1 p hq d), (fun e r h => by cases h)⟩
  | inr q =>
    obtain ⟨e, r⟩ := q
    obtain ⟨b1, b2, b3, s', b4, b5⟩ := a2 e r hq
    have hlen : l.length = e.tk.length + r.length := by rw [b2, List.length_append]
    obtain ⟨c1, c2⟩ := h6 e r s' (PE.ok_mono e (by omega) b1) b4 b3 (by omega)
    simp only
    refine ⟨fun p h d => by rw [b5]; exact c1 p h d, fun e' r' h => ?_⟩
    obtain ⟨d1, d2, d3, d4, s2, d5, d6⟩ := c2 e' r' h
    exact ⟨d1, by rw [d2, b2], d3, d4, s2, d5, fun d => by rw [b5]; exact d6 d⟩
theorem rd_any (n : Nat) : ∀ f, R0 n f ∧ R12 n 1 2 f ∧ R12 n 2 3 f ∧ R3 n f ∧ R4 n f ∧ R5 n f ∧ R6 n f
  | 0 => ⟨(fun l _ _ h => absurd h (by omega)), (fun l _ h => absurd h (by omega)), (fun l _ h => absurd h (by omega)), (fun _ l _ _ _ h => absurd h (by omega)), (fun l h => absurd h (by omega)), (fun l h => absurd h (by omega)), (fun _ l _ _ _ _ h => absurd h (by omega))⟩
  | f + 1 => by
    obtain ⟨h0, h1, h2, h3, h4, h5, h6⟩ := rd_any n f
    exact ⟨r0_step h5, r1_step h0, r2_step h1 h2, r3_step h2 h3, r4_step h2 h3, r5_step h4 h6, r6_step h4 h6⟩
end
section
open Go.RowKit
open M (OpD NodeD Gr)
structure Rl where
  car : Option Tok
  name : Tok
  eq : Tok
  body : PE
  semi : Tok
def Rl.tk (r : Rl) : List Tok := r.car.toList ++ (r.name :: r.eq :: (r.body.tk ++ [r.semi]))
def Rl.ok (r : Rl) : Prop := (∀ c, r.car = some c → c.kind = 94) ∧ r.name.kind = 110 ∧ r.eq.kind = 61 ∧ r.body.ok 5 ∧ r.semi.kind = 59
def rdBody (n : Nat) (car : Option Tok) (l : List Tok) : Sum Nat (Rl × List Tok) :=
  match l with
  | [] => .inl n
  | x :: r =>
    if x.kind = 110 then
      (match r with
       | [] => .inl n
       | y :: r1 =>
         if y.kind = 61 then
           (match rd n (8 * r1.length + 8) 5 .emp r1 with
            | .inl p => .inl p
            | .inr (e, r2) =>
              match r2 with
              | [] => .inl n
              | z :: r3 => if z.kind = 59 then .inr (⟨car, x, y, e, z⟩, r3) else .inl z.at_)
         else .inl y.at_)
    else .inl x.at_
def rdRule (n : Nat) (l : List Tok) : Sum Nat (Rl × List Tok) :=
  match l with
  | [] => .inl n
  | x :: r => if x.kind = 94 then rdBody n (some x) r else rdBody n none (x :: r)
def rdAll (n : Nat) : Nat → List Tok → Sum Nat (List Rl)
  | 0, l => .inl (pos n l)
  | f + 1, l =>
    match l with
    | [] => .inr []
    | x :: r =>
      match rdRule n (x :: r) with
      | .inl p => .inl p
      | .inr (q, r') =>
        match rdAll n f r' with
        | .inl p => .inl p
        | .inr qs => .inr (q :: qs)
theorem mv_semi {s : Nat} (hs : s = 3 ∨ s = 6) : moveM s 0 59 = (0, 0) := by rcases hs with rfl | rfl <;> rfl
theorem mv_badOut {s : Nat} {k : Int} (hs : s = 3 ∨ s = 6) (hb : ¬ beg k) (h47 : k ≠ 47) (h59 : k ≠ 59) (hsuf : s = 6 → k ≠ 42 ∧ k ≠ 63) : (moveM s 0 k).1 = 7 := by
  unfold beg at hb
  simp only [not_or] at hb
  obtain ⟨h1, h2, h3, h4, h5, h6, h7, h8⟩ := hb
  rcases hs with rfl | rfl
  · simp [moveM, h1, h2, h3, h4, h5, h6, h7, h8, h47, h59]
  · obtain ⟨q1, q2⟩ := hsuf rfl
    simp [moveM, h1, h2, h3, h4, h5, h6, h7, h8, h47, h59, q1, q2]
theorem rdBody_any (n : Nat) (car : Option Tok) (hc : ∀ c, car = some c → c.kind = 94) (l : List Tok) (s : Nat) (hs : s = 0 ∨ s = 1) (hx : s = 0 → kAt l 0 ≠ 94) (hne : s = 0 → l ≠ []) :
    (∀ p, rdBody n car l = .inl p → wrongF n l s 0 = (p : Int)) ∧ (∀ q r, rdBody n car l = .inr (q, r) → q.ok ∧ car.toList ++ l = q.tk ++ r ∧ wrongF n l s 0 = wrongF n r 0 0) := by
  cases l with
  | nil =>
    have h1 : s = 1 := hs.resolve_left (fun q => hne q rfl)
    exact ⟨(fun p h => by simp only [rdBody] at h; injection h with h; subst h; exact wrong_nil n 0 (by omega)), (fun q r h => by simp [rdBody] at h)⟩
  | cons x r =>
    simp only [rdBody]
    by_cases k1 : x.kind = 110
    · rw [if_pos k1]
      have st : wrongF n (x :: r) s 0 = wrongF n r 2 0 := wrong_step n (by omega) (by rw [k1]; rcases hs with rfl | rfl <;> rfl) (by omega)
      rw [st]
      cases r with
      | nil => exact ⟨(fun p h => by injection h with h; subst h; exact wrong_nil n 0 (by omega)), (fun q r h => by cases h)⟩
      | cons y r1 =>
        simp only
        by_cases k2 : y.kind = 61
        · rw [if_pos k2]
          have st2 : wrongF n (y :: r1) 2 0 = wrongF n r1 3 0 := wrong_step n (by omega) (by rw [k2]; rfl) (by omega)
          rw [st2]
          obtain ⟨a1, a2⟩ := (rd_any n (8 * r1.length + 8)).2.2.2.2.2.1 r1 (by omega)
          cases hq : rd n (8 * r1.length + 8) 5 .emp r1 with
          | inl p => exact ⟨(fun p' h => by injection h with h; subst h; exact a1 p hq 0), (fun q r h => by cases h)⟩
          | inr q =>
            obtain ⟨e, r2⟩ := q
            obtain ⟨b1, b2, b3, b4, s', b5, b6⟩ := a2 e r2 hq
            simp only
            rw [b6 0]
            cases r2 with
            | nil => exact ⟨(fun p h => by injection h with h; subst h; exact wrong_nil n 0 (by rcases b5.1 with rfl | rfl <;> omega)), (fun q r h => by cases h)⟩
            | cons z r3 =>
              simp only
              by_cases k3 : z.kind = 59
              · rw [if_pos k3]
                refine ⟨(fun p h => by cases h), fun q r h => ?_⟩
                injection h with h
                injection h with ha hb
                subst ha hb
                exact ⟨⟨hc, k1, k2, b1, k3⟩, by rw [b2]; simp [Rl.tk], wrong_step n (by omega) (by rw [k3]; exact mv_semi b5.1) (by omega)⟩
              · rw [if_neg k3]
                exact ⟨(fun p h => by injection h with h; subst h; exact wrong_bad n (.inr (mv_badOut b5.1 b3 b4 k3 b5.2))), (fun q r h => by cases h)⟩
        · rw [if_neg k2]
          exact ⟨(fun p h => by injection h with h; subst h; exact wrong_bad n (.inr (by simp [moveM, k2]))), (fun q r h => by cases h)⟩
    · rw [if_neg k1]
      refine ⟨(fun p h => ?_), (fun q r h => by cases h)⟩
      injection h with h
      subst h
      refine wrong_bad n (.inr ?_)
      rcases hs with rfl | rfl
      · have : x.kind ≠ 94 := hx rfl
        simp [moveM, k1, this]
      · simp [moveM, k1]
theorem rdRule_any (n : Nat) (l : List Tok) (hne : l ≠ []) :
    (∀ p, rdRule n l = .inl p → wrongF n l 0 0 = (p : Int)) ∧ (∀ q r, rdRule n l = .inr (q, r) → q.ok ∧ l = q.tk ++ r ∧ wrongF n l 0 0 = wrongF n r 0 0) := by
  cases l with
  | nil => exact absurd rfl hne
  | cons x r =>
    simp only [rdRule]
    by_cases k1 : x.kind = 94
    · rw [if_pos k1]
      have st : wrongF n (x :: r) 0 0 = wrongF n r 1 0 := wrong_step n (by omega) (by rw [k1]; rfl) (by omega)
      rw [st]
      exact rdBody_any n (some x) (fun c h => by injection h with h; subst h; exact k1) r 1 (.inr rfl) (fun q => absurd q (by omega)) (fun q => absurd q (by omega))
    · rw [if_neg k1]
      exact rdBody_any n none (fun c h => by cases h) (x :: r) 0 (.inl rfl) (fun _ => k1) (fun _ => hne)
theorem rdAll_any (n : Nat) : ∀ f l, l.length < f → (∀ p, rdAll n f l = .inl p → wrongF n l 0 0 = (p : Int)) ∧ (∀ qs, rdAll n f l = .inr qs → (∀ q ∈ qs, q.ok) ∧ l = qs.flatMap Rl.tk ∧ wrongF n l 0 0 = -1)
  | 0, l, h => absurd h (by omega)
  | f + 1, l, h => by
    cases l with
    | nil =>
      simp only [rdAll]
      refine ⟨(fun p h => by cases h), fun qs h => ?_⟩
      injection h with h
      subst h
      exact ⟨(fun q hq => by cases hq), rfl, rfl⟩
    | cons x r =>
      simp only [rdAll]
      obtain ⟨a1, a2⟩ := rdRule_any n (x :: r) (by simp)
      cases hq : rdRule n (x :: r) with
      | inl p => exact ⟨(fun p' h => by injection h with h; subst h; exact a1 p hq), (fun qs h => by cases h)⟩
      | inr q =>
        obtain ⟨q, r'⟩ := q
        obtain ⟨b1, b2, b3⟩ := a2 q r' hq
        have hlen : (x :: r).length = q.tk.length + r'.length := by rw [b2, List.length_append]
        have hpos : 0 < q.tk.length := by simp [Rl.tk]; omega
        obtain ⟨c1, c2⟩ := rdAll_any n f r' (by omega)
        simp only
        cases hr : rdAll n f r' with
        | inl p => exact ⟨(fun p' h => by injection h with h; subst h; rw [b3]; exact c1 p hr), (fun qs h => by cases h)⟩
        | inr qs =>
          refine ⟨(fun p h => by cases h), fun qs' h => ?_⟩
          injection h with h
          subst h
          obtain ⟨d1, d2, d3⟩ := c2 qs hr
          refine ⟨fun q' hq' => ?_, by rw [b2, List.flatMap_cons, ← d2], by rw [b3]; exact d3⟩
          rcases List.mem_cons.1 hq' with rfl | h
          · exact b1
          · exact d1 q' h
end
end Go.Proofs.YteoddjobpmmgeaaGreat
