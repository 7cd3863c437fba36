/-
  Walks: the model's LineCol.
-/
import Derived.Test.YtkgopipejgcbiaaDoorCopy
namespace Go.Proofs.YtkgopipejgcbiaaDoor
open Go.RowKit
set_option linter.unusedVariables false

theorem start_step {T : Nat → Int} {k f : Nat} (h : M.Start T k f) (hk : T k ≠ 10) : M.Start T (k + 1) f :=
  ⟨by have := h.1; omega, h.2.1, fun j h1 h2 => by
    by_cases e : j = k
    · subst e; exact hk
    · exact h.2.2 j h1 (by omega)⟩
theorem start_nl {T : Nat → Int} {k : Nat} (hk : T k = 10) : M.Start T (k + 1) (k + 1) :=
  ⟨Nat.le_refl _, .inr (by rw [Nat.add_sub_cancel]; exact hk), fun j h1 h2 => by omega⟩

set_option maxHeartbeats 1000000 in
/-- Where the line of an offset begins. -/
theorem lineStart_any (b off n cap q : Nat) (T : Nat → Int) (w : World) (hT : Tx w b off n T) (hb : ∀ i, 0 ≤ T i ∧ T i ≤ 255) (hn : n ≤ 1048576) (hq : q ≤ n) :
    Calls Tryd.prog 12 #[.slice (some ⟨b, off, none⟩) n cap, .int .i64 q] w fun e w' => (∃ f : Nat, e = .returned (.int .i64 f) ∧ M.Start T q f) ∧ w' = w := by
  go_enter Tryd.func12, Tryd.ntmps12
  go_wp2
  go_loop [5, 6] (fun s i => ∃ k f : Nat, k ≤ q ∧ i = .int .i64 k ∧ s = .int .i64 f ∧ M.Start T k f) (fun _ i => q - (intOf i).toNat)
  case atStart => exact ⟨0, 0, Nat.zero_le _, rfl, rfl, Nat.le_refl _, .inl rfl, fun j h1 h2 => by omega⟩
  case round =>
    obtain ⟨k, f, hk, rfl, rfl, hs⟩ := hrel
    have HS : Hid _ := hs
    clear hs
    by_cases hlt : k < q
    · have hc := hT k (by omega)
      obtain ⟨x0, x1⟩ := hb k
      by_cases h10 : T k = 10
      · have hd : (T k == 10) = true := by simp [h10]
        have H10 : Hid (T k = 10) := h10
        clear h10
        go_wp2
        go_round
        case rel => exact ⟨k + 1, k + 1, by omega, by go_num, by go_num, start_nl H10.out⟩
        case measure => simp [intOf]; omega
      · have hd : (T k == 10) = false := by simp [h10]
        have H10 : Hid (T k ≠ 10) := h10
        clear h10
        go_wp2
        go_round
        case rel => exact ⟨k + 1, f, by omega, by go_num, rfl, start_step HS.out H10.out⟩
        case measure => simp [intOf]; omega
    · obtain rfl : k = q := by omega
      go_wp2
      go_ret
      exact ⟨⟨f, rfl, HS.out⟩, rfl⟩

/-- What LineCol answers at an offset of the text. -/
def LC (T : Nat → Int) (n q L C : Nat) : Prop := ∃ f c, M.Start T q f ∧ M.Col T n f q c ∧ L = 1 + M.cnt T q ∧ C = c + 1
theorem LC.unique {T : Nat → Int} {n q L C L' C' : Nat} (h : LC T n q L C) (k : LC T n q L' C') : L = L' ∧ C = C' := by
  obtain ⟨f, c, h1, h2, h3, h4⟩ := h
  obtain ⟨f', c', k1, k2, k3, k4⟩ := k
  obtain rfl := h1.unique k1
  obtain rfl := h2.unique k2
  exact ⟨by omega, by omega⟩

theorem LC.bound {T : Nat → Int} {n q L C : Nat} (h : LC T n q L C) : 1 ≤ L ∧ 1 ≤ C := by
  obtain ⟨f, c, _, _, h3, h4⟩ := h
  omega

set_option maxHeartbeats 2000000 in
/-- The model's LineCol at an offset of the text. -/
theorem slineCol_in (b off n cap q : Nat) (T : Nat → Int) (w : World) (hT : Tx w b off n T) (hb : ∀ i, 0 ≤ T i ∧ T i ≤ 255) (hn : n ≤ 1048576) (hq : q ≤ n) :
    Calls Tryd.prog 10 #[.slice (some ⟨b, off, none⟩) n cap, .int .i64 q] w fun e w' => (∃ L C : Nat, e = .returned (.tuple #[.int .i64 L, .int .i64 C]) ∧ LC T n q L C) ∧ w' = w := by
  have t1 : decide ((q : Int) < 0) = false := by simp
  have t2 : decide (n < q) = false := by simp; omega
  go_enter Tryd.func10, Tryd.ntmps10
  go_wp2
  go_loop [6, 7] (fun a i => ∃ k : Nat, k ≤ q ∧ i = .int .i64 k ∧ a = .int .i64 (1 + M.cnt T k : Nat)) (fun _ i => q - (intOf i).toNat)
  case atStart => exact ⟨0, Nat.zero_le _, rfl, rfl⟩
  case round =>
    obtain ⟨k, hk, rfl, rfl⟩ := hrel
    have hcl := M.cnt_le T k
    by_cases hlt : k < q
    · have hc := hT k (by omega)
      obtain ⟨x0, x1⟩ := hb k
      by_cases h10 : T k = 10
      · have hd : (T k == 10) = true := by simp [h10]
        have H10 : Hid (M.cnt T (k + 1) = M.cnt T k + 1) := M.cnt_nl T k h10
        clear h10
        go_wp2
        go_round
        case rel => exact ⟨k + 1, by omega, by go_num, by rw [H10.out]; go_num⟩
        case measure => simp [intOf]; omega
      · have hd : (T k == 10) = false := by simp [h10]
        have H10 : Hid (M.cnt T (k + 1) = M.cnt T k) := by show _ = _; simp only [M.cnt]; rw [if_neg h10]
        clear h10
        go_wp2
        go_round
        case rel => exact ⟨k + 1, by omega, by go_num, by rw [H10.out]⟩
        case measure => simp [intOf]; omega
    · obtain rfl : k = q := by omega
      go_wp2_with fail
      refine (lineStart_any b off n cap k T _ hT hb hn hq).mono ?_
      rintro e w' ⟨⟨f, rfl, hs⟩, rfl⟩
      have HS : Hid _ := hs
      have hfk := hs.1
      clear hs
      go_wp2_with fail
      go_loop [8, 9] (fun a i => ∃ c : Nat, i = .int .i64 (M.pos T n f c : Nat) ∧ a = .int .i64 (c + 1 : Nat) ∧ M.pos T n f c ≤ n ∧ ∀ j, j < c → M.pos T n f j < k) (fun _ i => n - (intOf i).toNat)
      case atStart => exact ⟨0, rfl, rfl, by show f ≤ n; omega, fun j h => by omega⟩
      case round =>
        obtain ⟨c, rfl, rfl, hpn, hall⟩ := hrel
        have HA : Hid _ := hall
        clear hall
        have hge := M.pos_ge T n f c
        generalize hp : M.pos T n f c = p at *
        have HP : Hid _ := hp
        clear hp
        by_cases hlt2 : p < k
        · have hcp := M.cl_pos T n p
          have hcle := M.cl_le T n p (by omega)
          have HE : Hid (M.scl T n p = M.cl T n p) := M.scl_eq T n p (by omega) hb
          go_wp2_with (go_at_call 17; refine (scharLen_in b off n cap p T _ hT hb hn (by omega)).mono ?_; rintro e w' ⟨rfl, rfl⟩; rw [HE.out])
          go_round
          case rel => exact ⟨c + 1, by simp only [M.pos]; rw [HP.out]; go_num, by go_num, by simp only [M.pos]; rw [HP.out]; omega, fun j hj => by
            by_cases e : j = c
            · subst e; rw [HP.out]; exact hlt2
            · exact HA.out j (by omega)⟩
          case measure => simp [intOf]; omega
        · go_wp2
          go_ret2
          exact ⟨⟨1 + M.cnt T k, c + 1, by go_num, f, c, HS.out, ⟨HA.out, by rw [HP.out]; omega⟩, rfl, rfl⟩, rfl⟩

set_option maxHeartbeats 1000000 in
theorem slineCol_out (a : Option Addr) (n cap : Nat) (q : Int) (w : World) (hn : n ≤ 1048576) (hq : q < 0 ∨ (n : Int) < q) :
    Calls Tryd.prog 10 #[.slice a n cap, .int .i64 q] w fun e w' => e = .returned (.tuple #[.int .i64 0, .int .i64 0]) ∧ w' = w := by
  by_cases h0 : q < 0
  · go_enter Tryd.func10, Tryd.ntmps10
    go_wp2
    go_ret2
    exact ⟨rfl, rfl⟩
  · have h1 : (n : Int) < q := by omega
    go_enter Tryd.func10, Tryd.ntmps10
    go_wp2
    go_ret2
    exact ⟨rfl, rfl⟩

end Go.Proofs.YtkgopipejgcbiaaDoor
