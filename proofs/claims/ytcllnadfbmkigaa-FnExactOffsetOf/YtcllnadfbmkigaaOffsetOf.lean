/-
  Walks: the program's OffsetOf.
-/
import Derived.Test.YtcllnadfbmkigaaNumbered
namespace Go.Proofs.Ytcllnadfbmkigaa
open Go.RowKit Go.Shelf
set_option linter.unusedVariables false

theorem line_end {T : Nat → Int} {n f : Nat} (hf : f ≤ n) : f + lnLen T n f ≤ n ∧ (f + lnLen T n f < n → T (f + lnLen T n f) = 10) := by
  have := lnLen_le T n f
  exact ⟨by omega, lnLen_at⟩

/-- At p begins the character number c (from 1) of the line number l. -/
def Reach (T : Nat → Int) (n p l c : Nat) : Prop :=
  ∃ f k, f ≤ p ∧ p ≤ n ∧ (f = 0 ∨ T (f - 1) = 10) ∧ (∀ j, f ≤ j → j < p → T j ≠ 10) ∧ l = 1 + M.cnt T f ∧ c = k + 1 ∧ p = M.pos T n f k

theorem cnt_mono {T : Nat → Int} {f g : Nat} (h : f ≤ g) : M.cnt T f ≤ M.cnt T g := by
  induction g with
  | zero => obtain rfl : f = 0 := by omega
            exact Nat.le_refl _
  | succ g ih =>
    by_cases e : f = g + 1
    · subst e; exact Nat.le_refl _
    · have := ih (by omega)
      simp only [M.cnt]; split <;> omega
theorem cnt_start {T : Nat → Int} {f g : Nat} (h : f < g) (hg : g = 0 ∨ T (g - 1) = 10) : M.cnt T f < M.cnt T g := by
  have h1 := cnt_mono (T := T) (f := f) (g := g - 1) (by omega)
  have h2 : M.cnt T (g - 1 + 1) = M.cnt T (g - 1) + 1 := M.cnt_nl T (g - 1) (by rcases hg with h | h; omega; exact h)
  rw [Nat.sub_add_cancel (by omega)] at h2
  omega
theorem start_of_cnt {T : Nat → Int} {f g : Nat} (hf : f = 0 ∨ T (f - 1) = 10) (hg : g = 0 ∨ T (g - 1) = 10) (h : M.cnt T f = M.cnt T g) : f = g := by
  rcases Nat.lt_trichotomy f g with e | e | e
  · have := cnt_start e hg; omega
  · exact e
  · have := cnt_start e hf; omega

/-- What OffsetOf answers. -/
def OF (T : Nat → Int) (n : Nat) (l c r : Int) : Prop :=
  (∃ p L C : Nat, r = p ∧ l = L ∧ c = C ∧ Reach T n p L C) ∨ (r = -1 ∧ ∀ p L C : Nat, Reach T n p L C → ¬ (l = L ∧ c = C))

theorem Reach.unique {T : Nat → Int} {n p p' l c : Nat} (h : Reach T n p l c) (k : Reach T n p' l c) : p = p' := by
  obtain ⟨f, i, _, _, hf, _, hl, hc, hp⟩ := h
  obtain ⟨g, j, _, _, kf, _, kl, kc, kp⟩ := k
  obtain rfl := start_of_cnt hf kf (by omega)
  obtain rfl : i = j := by omega
  rw [hp, kp]

theorem OF.unique {T : Nat → Int} {n : Nat} {l c r r' : Int} (h : OF T n l c r) (k : OF T n l c r') : r = r' := by
  rcases h with ⟨p, L, C, rfl, hl, hc, hr⟩ | ⟨rfl, hn⟩
  · rcases k with ⟨p', L', C', rfl, kl, kc, kr⟩ | ⟨rfl, kn⟩
    · obtain rfl : L = L' := by omega
      obtain rfl : C = C' := by omega
      rw [hr.unique kr]
    · exact absurd ⟨hl, hc⟩ (kn p L C hr)
  · rcases k with ⟨p', L', C', rfl, kl, kc, kr⟩ | ⟨rfl, kn⟩
    · exact absurd ⟨kl, kc⟩ (hn p' L' C' kr)
    · rfl

theorem reach_line {T : Nat → Int} {n f k : Nat} (hf : f ≤ n) (hst : f = 0 ∨ T (f - 1) = 10) (hk : ∀ j, j < k → M.pos (sh T f) (lnLen T n f) 0 j < lnLen T n f) (hp : M.pos (sh T f) (lnLen T n f) 0 k ≤ lnLen T n f) :
    Reach T n (f + M.pos (sh T f) (lnLen T n f) 0 k) (1 + M.cnt T f) (k + 1) := by
  obtain ⟨e1, e2⟩ := line_end (T := T) hf
  have e := M.pos_body T n f (lnLen T n f) k e1 e2 hk
  exact ⟨f, k, by omega, by omega, hst, fun j a d => lnLen_not (n := n) a (by omega), rfl, rfl, e.symm⟩

theorem no_line {T : Nat → Int} {n : Nat} {l c : Int} (h : ∀ j : Nat, 1 ≤ j → j ≤ 1 + M.cnt T n → (j : Int) ≠ l) : OF T n l c (-1) := by
  refine .inr ⟨rfl, fun p L C ⟨f, k, h1, h2, _, _, hl, _, _⟩ ⟨e, _⟩ => ?_⟩
  have := cnt_mono (T := T) (f := f) (g := n) (by omega)
  exact h L (by omega) (by omega) e.symm

theorem no_col {T : Nat → Int} {n f K : Nat} {l c : Int} (hf : f ≤ n) (hst : f = 0 ∨ T (f - 1) = 10) (hl : l = (1 + M.cnt T f : Nat)) (hK : M.pos (sh T f) (lnLen T n f) 0 K = lnLen T n f)
    (hk : ∀ j, j < K → M.pos (sh T f) (lnLen T n f) 0 j < lnLen T n f) (hc : ∀ j, j ≤ K → (j : Int) + 1 ≠ c) : OF T n l c (-1) := by
  obtain ⟨e1, e2⟩ := line_end (T := T) hf
  have e := M.pos_body T n f (lnLen T n f) K e1 e2 hk
  refine .inr ⟨rfl, fun p L C ⟨g, k, h1, h2, h3, h4, hL, hC, hp⟩ ⟨a, d⟩ => ?_⟩
  obtain rfl := start_of_cnt hst h3 (by omega)
  have hpe : p ≤ f + lnLen T n f := by
    by_cases hlt : f + lnLen T n f < p
    · exact absurd (e2 (by omega)) (h4 _ (by omega) hlt)
    · omega
  have hkK : k ≤ K := by
    by_cases hlt : K < k
    · have := M.pos_strict T n f K k hlt
      have hK' : M.pos (fun i => T (f + i)) (lnLen T n f) 0 K = lnLen T n f := hK
      omega
    · omega
  exact hc k hkK (by omega)

set_option maxRecDepth 100000 in
set_option maxHeartbeats 4000000 in
/-- The program's OffsetOf. -/
theorem offsetOf_any (a : Option Addr) (n cap : Nat) (l c : Int) (T : Nat → Int) (adr : Nat → Option Addr) (w : World) (hV : TextV w a n cap T adr) :
    Calls Try.prog 6 #[.slice a n cap, .int .i64 l, .int .i64 c] w fun e w' => (∃ r : Int, e = .returned (.int .i64 r) ∧ OF T n l c r) ∧ Below w.heap.size w w' := by
  go_enter Try.func6, Try.ntmps6
  go_wp2_with fail
  refine (callsIn_wide.1 (numbered_in a n cap l T adr _ hV)).mono ?_
  rintro e w1 ⟨(⟨num, fr, rfl, hfr, hnum, hst, hl⟩ | ⟨rfl, hno⟩), hb1⟩
  · have hll := lnLen_le T n fr
    have hV1 := hV.later hb1
    have hn := hV.small
    have hcap := hV.cap
    obtain ⟨b, o, hA, hTb⟩ := hV1.body fr hfr
    have F1 : Hid (∀ k : Nat, c = (k + 1 : Nat) → M.pos (sh T fr) (lnLen T n fr) 0 k ≤ lnLen T n fr → (∀ j, j < k → M.pos (sh T fr) (lnLen T n fr) 0 j < lnLen T n fr) → OF T n l c (fr + M.pos (sh T fr) (lnLen T n fr) 0 k : Nat)) := fun k h1 h2 h3 =>
      .inl ⟨_, 1 + M.cnt T fr, k + 1, rfl, by rw [hl, hnum], h1, reach_line hfr hst h3 h2⟩
    have F2 : Hid (∀ K, M.pos (sh T fr) (lnLen T n fr) 0 K = lnLen T n fr → (∀ j, j < K → M.pos (sh T fr) (lnLen T n fr) 0 j < lnLen T n fr) → (∀ j : Nat, j ≤ K → (j : Int) + 1 ≠ c) → OF T n l c (-1)) := fun K h1 h2 h3 =>
      no_col hfr hst (by rw [hl, hnum]) h1 h2 h3
    have hs1 := hb1.size
    clear hnum hst hl
    go_wp2_with fail
    have hb2 : Below w.heap.size w (w1.alloc (Obj.cells #[Value.int IntKind.i64 num, Value.int IntKind.i64 fr, Value.slice (adr fr) (lnLen T n fr) (cap - fr)] 29)) := hb1.alloc hs1 _
    refine (callsIn_wide.1 (offset_in num fr b o (lnLen T n fr) (cap - fr) (adr fr) c (sh T fr) _ (hTb.later ((Below.refl _ w1).alloc (Nat.le_refl _) _)) (fun i => hV.byte _) (by omega) (by omega) (by omega) hA)).mono ?_
    rintro e w2 ⟨(⟨k, rfl, h1, h2, h3⟩ | ⟨rfl, K, h1, h2, h3⟩), hb3⟩
    · have G : Hid (OF T n l c (fr + M.pos (sh T fr) (lnLen T n fr) 0 k : Nat)) := F1.out k h1 h2 h3
      clear h1 h2 h3
      go_wp2
      go_ret
      exact ⟨⟨_, rfl, G.out⟩, hb2.trans (hb3.mono hb2.size)⟩
    · have G : Hid (OF T n l c (-1)) := F2.out K h1 h2 h3
      clear h1 h2 h3
      go_wp2
      go_ret
      exact ⟨⟨_, rfl, G.out⟩, hb2.trans (hb3.mono hb2.size)⟩
  · have hs1 := hb1.size
    have G : Hid (OF T n l c (-1)) := no_line (c := c) hno
    clear hno
    go_wp2
    go_ret
    exact ⟨⟨_, rfl, G.out⟩, hb1.alloc hs1 _⟩

end Go.Proofs.Ytcllnadfbmkigaa
