/-
  Walks: the model's OffsetOf.
-/
import Derived.Test.YtcllnadfbmkigaaOffsetOf
namespace Go.Proofs.Ytcllnadfbmkigaa
open Go.RowKit
set_option linter.unusedVariables false

theorem char_high {T : Nat → Int} {n p j : Nat} (h1 : p < j) (h2 : j < p + M.cl T n p) : 128 ≤ T j := by
  unfold M.cl at h2
  split at h2
  · split at h2
    · rename_i hg
      unfold M.good at hg
      have := of_decide_eq_true hg (j - p - 1) (by omega)
      have e : p + 1 + (j - p - 1) = j := by omega
      rw [e] at this
      have hlo : 128 ≤ M.loB (T p) (j - p - 1) := by
        unfold M.loB M.lo2
        split <;> (try split) <;> (try split) <;> (try split) <;> omega
      omega
    · omega
  · omega

theorem cl_nl {T : Nat → Int} {n p : Nat} (h : T p = 10) : M.cl T n p = 1 := by
  have hl : M.lsz (T p) = 1 := by rw [h]; rfl
  unfold M.cl
  rw [hl]
  split <;> (try split) <;> rfl

theorem reach_zero {T : Nat → Int} {n : Nat} : Reach T n 0 1 1 := ⟨0, 0, Nat.le_refl _, Nat.zero_le _, .inl rfl, fun j _ h => by omega, rfl, rfl, rfl⟩

theorem reach_nl {T : Nat → Int} {n p L C : Nat} (h : Reach T n p L C) (hp : p < n) (h10 : T p = 10) : Reach T n (p + 1) (L + 1) 1 := by
  obtain ⟨f, k, h1, h2, h3, h4, h5, h6, h7⟩ := h
  refine ⟨p + 1, 0, Nat.le_refl _, by omega, .inr (by rw [Nat.add_sub_cancel]; exact h10), fun j a b => by omega, ?_, rfl, rfl⟩
  rw [M.cnt_nl T p h10, M.cnt_same T f p h1 h4]
  omega

theorem reach_ch {T : Nat → Int} {n p L C : Nat} (h : Reach T n p L C) (hp : p < n) (h10 : T p ≠ 10) : Reach T n (p + M.cl T n p) L (C + 1) := by
  obtain ⟨f, k, h1, h2, h3, h4, h5, h6, h7⟩ := h
  have hc := M.cl_pos T n p
  refine ⟨f, k + 1, by omega, M.cl_le T n p hp, h3, fun j a b => ?_, h5, by omega, ?_⟩
  · by_cases e : j < p
    · exact h4 j a e
    · by_cases e2 : j = p
      · subst e2; exact h10
      · have := char_high (T := T) (n := n) (p := p) (j := j) (by omega) b
        omega
  · simp only [M.pos]
    rw [← h7]

theorem same_start {T : Nat → Int} {f g p q : Nat} (hf : f = 0 ∨ T (f - 1) = 10) (hg : g = 0 ∨ T (g - 1) = 10) (h1 : f ≤ p) (h2 : ∀ j, f ≤ j → j < p → T j ≠ 10) (k1 : g ≤ p) (hpq : p ≤ q) (k2 : ∀ j, g ≤ j → j < q → T j ≠ 10) : f = g := by
  rcases Nat.lt_trichotomy f g with e | e | e
  · rcases hg with hg | hg
    · omega
    · exact absurd hg (h2 (g - 1) (by omega) (by omega))
  · exact e
  · rcases hf with hf | hf
    · omega
    · exact absurd hf (k2 (f - 1) (by omega) (by omega))

theorem pos_inj {T : Nat → Int} {n f i j : Nat} (h : M.pos T n f i = M.pos T n f j) : i = j := by
  rcases Nat.lt_trichotomy i j with e | e | e
  · have := M.pos_strict T n f i j e; omega
  · exact e
  · have := M.pos_strict T n f j i e; omega

theorem reach_fun {T : Nat → Int} {n p L C L' C' : Nat} (h : Reach T n p L C) (k : Reach T n p L' C') : L = L' ∧ C = C' := by
  obtain ⟨f, i, h1, h2, h3, h4, h5, h6, h7⟩ := h
  obtain ⟨g, j, k1, k2, k3, k4, k5, k6, k7⟩ := k
  obtain rfl := same_start h3 k3 h1 h4 k1 (Nat.le_refl _) k4
  have := pos_inj (h7.symm.trans k7)
  omega

theorem reach_next {T : Nat → Int} {n p p' L C L' C' : Nat} (h : Reach T n p L C) (k : Reach T n p' L' C') (hlt : p < p') : p + M.cl T n p ≤ p' := by
  obtain ⟨f, i, h1, h2, h3, h4, h5, h6, h7⟩ := h
  obtain ⟨g, j, k1, k2, k3, k4, k5, k6, k7⟩ := k
  by_cases hg : g ≤ p
  · obtain rfl := same_start h3 k3 h1 h4 hg (by omega) k4
    have hij : i < j := by
      rcases Nat.lt_or_ge i j with e | e
      · exact e
      · have := M.pos_mono T n f j i e; omega
    have := M.pos_mono T n f (i + 1) j hij
    simp only [M.pos] at this
    rw [← h7] at this
    omega
  · have hg10 : T (g - 1) = 10 := by
      rcases k3 with e | e
      · omega
      · exact e
    by_cases e : g - 1 = p
    · rw [cl_nl (by rw [← e]; exact hg10)]; omega
    · by_cases hc : g - 1 < p + M.cl T n p
      · have := char_high (T := T) (n := n) (p := p) (j := g - 1) (by omega) hc
        omega
      · omega

theorem reach_bd {T : Nat → Int} {n p L C : Nat} (h : Reach T n p L C) : L ≤ p + 1 ∧ C ≤ p + 1 ∧ p ≤ n := by
  obtain ⟨f, k, h1, h2, h3, h4, h5, h6, h7⟩ := h
  have := M.cnt_le T f
  have := M.pos_ge T n f k
  omega

/-- None of the places before p is the one that is sought. -/
def notYet (T : Nat → Int) (n p : Nat) (l c : Int) : Prop := ∀ p' L' C' : Nat, Reach T n p' L' C' → p' < p → ¬ (l = L' ∧ c = C')

theorem notYet_step {T : Nat → Int} {n p q L C : Nat} {l c : Int} (h : notYet T n p l c) (hr : Reach T n p L C) (hn : ¬ (l = L ∧ c = C)) (hq : q ≤ p + M.cl T n p) : notYet T n q l c := fun p' L' C' hr' hlt => by
  rcases Nat.lt_trichotomy p' p with e | e | e
  · exact h p' L' C' hr' e
  · subst e
    obtain ⟨e1, e2⟩ := reach_fun hr hr'
    subst e1; subst e2; exact hn
  · have := reach_next hr hr' e
    omega

set_option maxHeartbeats 4000000 in
/-- The model's OffsetOf. -/
theorem soffsetOf_any (b off n cap : Nat) (l c : Int) (T : Nat → Int) (w : World) (hT : Tx w b off n T) (hb : ∀ i, 0 ≤ T i ∧ T i ≤ 255) (hn : n ≤ 1048576) :
    Calls Try.prog 4 #[.slice (some ⟨b, off, none⟩) n cap, .int .i64 l, .int .i64 c] w fun e w' => (∃ r : Int, e = .returned (.int .i64 r) ∧ OF T n l c r) ∧ w' = w := by
  go_enter Try.func4, Try.ntmps4
  go_wp2
  go_loop [7, 8, 9] (fun a d i => ∃ L C p : Nat, a = .int .i64 L ∧ d = .int .i64 C ∧ i = .int .i64 p ∧ Reach T n p L C ∧ notYet T n p l c) (fun _ _ i => n - (intOf i).toNat)
  case atStart => exact ⟨1, 1, 0, rfl, rfl, rfl, reach_zero, fun p' L' C' _ h => by omega⟩
  case round =>
    obtain ⟨L, C, p, rfl, rfl, rfl, hr, hy⟩ := hrel
    obtain ⟨bL, bC, bp⟩ := reach_bd hr
    have HR : Hid (Reach T n p L C) := hr
    have HY : Hid (notYet T n p l c) := hy
    clear hr hy
    by_cases hf : l = L ∧ c = C
    · obtain ⟨rfl, rfl⟩ := hf
      have d1 : ((L : Int) != L) = false := by simp
      have d2 : ((C : Int) != C) = false := by simp
      go_wp2
      go_ret
      exact ⟨⟨p, rfl, .inl ⟨p, L, C, rfl, rfl, rfl, HR.out⟩⟩, rfl⟩
    · have HF : Hid (¬ (l = L ∧ c = C)) := hf
      have hcond : (((L : Int) != l) = true) ∨ (((L : Int) != l) = false ∧ ((C : Int) != c) = true) := by
        by_cases e : (L : Int) = l
        · right
          refine ⟨by simp [e], ?_⟩
          rw [bne_iff_ne]
          intro e2; exact hf ⟨e.symm, e2.symm⟩
        · left; rw [bne_iff_ne]; exact e
      clear hf
      by_cases he : p = n
      · have d3 : ((p : Int) == n) = true := by simp [he]
        have HN : Hid (OF T n l c (-1)) := .inr ⟨rfl, fun p' L' C' hr' => by
          have hb' := (reach_bd hr').2.2
          by_cases e : p' < p
          · exact HY.out p' L' C' hr' e
          · obtain rfl : p' = p := by omega
            obtain ⟨e1, e2⟩ := reach_fun HR.out hr'
            subst e1; subst e2; exact HF.out⟩
        clear he
        rcases hcond with d1 | ⟨d1, d2⟩
        · go_wp2
          go_ret
          exact ⟨⟨_, rfl, HN.out⟩, rfl⟩
        · go_wp2
          go_ret
          exact ⟨⟨_, rfl, HN.out⟩, rfl⟩
      · have d3 : ((p : Int) == n) = false := by rw [beq_eq_false_iff_ne]; omega
        have hpn : p < n := by omega
        have hpn' : (p : Int) < n := by omega
        have hc := hT p hpn
        obtain ⟨x0, x1⟩ := hb p
        have hcp := M.cl_pos T n p
        have hcle := M.cl_le T n p hpn
        have HE : Hid (M.scl T n p = M.cl T n p) := M.scl_eq T n p hpn hb
        clear he
        by_cases h10 : T p = 10
        · have d4 : (T p == 10) = true := by simp [h10]
          have HC : Hid (M.cl T n p = 1) := cl_nl h10
          have HR2 : Hid (Reach T n (p + 1) (L + 1) 1) := reach_nl HR.out hpn h10
          have HY2 : Hid (notYet T n (p + 1) l c) := notYet_step HY.out HR.out HF.out (by omega)
          clear h10
          rcases hcond with d1 | ⟨d1, d2⟩
          all_goals
            go_wp2_with (go_at_call 8; refine (scharLen_in b off n cap p T _ hT hb hn hpn).mono ?_; rintro e w' ⟨rfl, rfl⟩; rw [HE.out, HC.out])
            go_round
            case rel => exact ⟨L + 1, 1, p + 1, by go_num, rfl, by go_num, HR2.out, HY2.out⟩
            case measure => simp [intOf]; omega
        · have d4 : (T p == 10) = false := by simp [h10]
          have HR2 : Hid (Reach T n (p + M.cl T n p) L (C + 1)) := reach_ch HR.out hpn h10
          have HY2 : Hid (notYet T n (p + M.cl T n p) l c) := notYet_step HY.out HR.out HF.out (Nat.le_refl _)
          clear h10
          rcases hcond with d1 | ⟨d1, d2⟩
          all_goals
            go_wp2_with (go_at_call 8; refine (scharLen_in b off n cap p T _ hT hb hn hpn).mono ?_; rintro e w' ⟨rfl, rfl⟩; rw [HE.out])
            go_round
            case rel => exact ⟨L, C + 1, p + M.cl T n p, rfl, by go_num, by go_num, HR2.out, HY2.out⟩
            case measure => simp [intOf]; omega

end Go.Proofs.Ytcllnadfbmkigaa
