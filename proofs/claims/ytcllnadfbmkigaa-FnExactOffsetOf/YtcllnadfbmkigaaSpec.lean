/-
  Walks: the model's CharLen.
-/
import Derived.Test.YtcllnadfbmkigaaChar
namespace Go.Proofs.Ytcllnadfbmkigaa
open Go.RowKit
set_option linter.unusedVariables false

theorem ret_bool {a b : Bool} (h : a = b) : Ending.returned (.bool a) = .returned (.bool b) := by rw [h]

set_option maxHeartbeats 1000000 in
theorem charLen_out (a : Option Addr) (n cap : Nat) (q : Int) (w : World) (hn : n ≤ 1048576) (hq : q < 0 ∨ (n : Int) ≤ q) :
    Calls Try.prog 22 #[.slice a n cap, .int .i64 q] w fun e w' => e = .returned (.int .i64 0) ∧ w' = w := by
  by_cases h0 : q < 0
  · go_enter Try.func22, Try.ntmps22
    go_wp2
    go_ret
    exact ⟨rfl, rfl⟩
  · have h1 : (n : Int) ≤ q := by omega
    go_enter Try.func22, Try.ntmps22
    go_wp2
    go_ret
    exact ⟨rfl, rfl⟩

set_option maxHeartbeats 1000000 in
theorem scharLen_out (a : Option Addr) (n cap : Nat) (q : Int) (w : World) (hn : n ≤ 1048576) (hq : q < 0 ∨ (n : Int) ≤ q) :
    Calls Try.prog 8 #[.slice a n cap, .int .i64 q] w fun e w' => e = .returned (.int .i64 0) ∧ w' = w := by
  by_cases h0 : q < 0
  · go_enter Try.func8, Try.ntmps8
    go_wp2
    go_ret
    exact ⟨rfl, rfl⟩
  · have h1 : (n : Int) ≤ q := by omega
    go_enter Try.func8, Try.ntmps8
    go_wp2
    go_ret
    exact ⟨rfl, rfl⟩

set_option maxHeartbeats 1000000 in
theorem good2_any (v : Int) (w : World) : Calls Try.prog 12 #[.int .i64 v, .int .i64 2] w fun e w' => e = .returned (.bool (M.gd v 2)) ∧ w' = w := by
  have H : Hid (M.gd v 2 = decide (128 ≤ v)) := M.gd_2 v
  go_enter Try.func12, Try.ntmps12
  go_wp2
  go_ret
  exact ⟨ret_bool H.out.symm, rfl⟩

set_option maxHeartbeats 1000000 in
theorem good3_any (v : Int) (w : World) : Calls Try.prog 12 #[.int .i64 v, .int .i64 3] w fun e w' => e = .returned (.bool (M.gd v 3)) ∧ w' = w := by
  have H : Hid (M.gd v 3 = decide (2048 ≤ v ∧ (v < 55296 ∨ 57343 < v))) := M.gd_3 v
  by_cases h1 : 2048 ≤ v
  · by_cases h2 : v < 55296
    · go_enter Try.func12, Try.ntmps12
      go_wp2
      go_ret
      exact ⟨ret_bool (by rw [H.out]; first | exact (decide_eq_true (by omega)).symm | exact (decide_eq_false (by omega)).symm), rfl⟩
    · by_cases h3 : 57343 < v
      · go_enter Try.func12, Try.ntmps12
        go_wp2
        go_ret
        exact ⟨ret_bool (by rw [H.out]; first | exact (decide_eq_true (by omega)).symm | exact (decide_eq_false (by omega)).symm), rfl⟩
      · go_enter Try.func12, Try.ntmps12
        go_wp2
        go_ret
        exact ⟨ret_bool (by rw [H.out]; first | exact (decide_eq_true (by omega)).symm | exact (decide_eq_false (by omega)).symm), rfl⟩
  · go_enter Try.func12, Try.ntmps12
    go_wp2
    go_ret
    exact ⟨ret_bool (by rw [H.out]; first | exact (decide_eq_true (by omega)).symm | exact (decide_eq_false (by omega)).symm), rfl⟩

set_option maxHeartbeats 1000000 in
theorem good4_any (v : Int) (w : World) : Calls Try.prog 12 #[.int .i64 v, .int .i64 4] w fun e w' => e = .returned (.bool (M.gd v 4)) ∧ w' = w := by
  have H : Hid (M.gd v 4 = decide (65536 ≤ v ∧ v ≤ 1114111)) := M.gd_4 v
  by_cases h1 : 65536 ≤ v
  · by_cases h2 : v ≤ 1114111
    · go_enter Try.func12, Try.ntmps12
      go_wp2
      go_ret
      exact ⟨ret_bool (by rw [H.out]; first | exact (decide_eq_true (by omega)).symm | exact (decide_eq_false (by omega)).symm), rfl⟩
    · go_enter Try.func12, Try.ntmps12
      go_wp2
      go_ret
      exact ⟨ret_bool (by rw [H.out]; first | exact (decide_eq_true (by omega)).symm | exact (decide_eq_false (by omega)).symm), rfl⟩
  · go_enter Try.func12, Try.ntmps12
    go_wp2
    go_ret
    exact ⟨ret_bool (by rw [H.out]; first | exact (decide_eq_true (by omega)).symm | exact (decide_eq_false (by omega)).symm), rfl⟩

def contUp (T : Nat → Int) (p k : Nat) : Prop := ∀ j, j < k → T (p + (j + 1)) / 64 = 2
theorem contUp_succ {T : Nat → Int} {p k : Nat} (h : contUp T p k) (hk : T (p + (k + 1)) / 64 = 2) : contUp T p (k + 1) := fun j hj => by
  by_cases e : j = k
  · subst e; exact hk
  · exact h j (by omega)
theorem lval_short {T : Nat → Int} {n p m : Nat} (h : n < p + m) : M.lval T n p m = -1 := by unfold M.lval; rw [if_pos h]
theorem lval_neg {T : Nat → Int} {n p m : Nat} (h : ¬ n < p + m) (hv : M.v0 (T p) m < 0) : M.lval T n p m = -1 := by unfold M.lval; rw [if_neg h, if_pos hv]
theorem lval_bad {T : Nat → Int} {n p m k : Nat} (hk : k < m - 1) (hc : ¬ T (p + (k + 1)) / 64 = 2) : M.lval T n p m = -1 := by
  unfold M.lval; split
  · rfl
  · split
    · rfl
    · rw [if_neg (by unfold M.conts; intro hd; exact hc (of_decide_eq_true hd k hk))]
theorem lval_all {T : Nat → Int} {n p m : Nat} (h : ¬ n < p + m) (hv : ¬ M.v0 (T p) m < 0) (hc : contUp T p (m - 1)) : M.lval T n p m = M.acc T p (M.v0 (T p) m) (m - 1) := by
  unfold M.lval; rw [if_neg h, if_neg hv, if_pos (by unfold M.conts; exact decide_eq_true hc)]

set_option maxHeartbeats 2000000 in
theorem value2_any (b off n cap p : Nat) (T : Nat → Int) (w : World) (hT : Tx w b off n T) (hb : ∀ i, 0 ≤ T i ∧ T i ≤ 255) (hn : n ≤ 1048576) (hp : p < n) :
    Calls Try.prog 11 #[.slice (some ⟨b, off, none⟩) n cap, .int .i64 p, .int .i64 2] w fun e w' => e = .returned (.int .i64 (M.lval T n p 2)) ∧ w' = w := by
  have hc := hT p hp
  obtain ⟨b0, b1⟩ := hb p
  by_cases hs : n < p + 2
  · have H : Hid (M.lval T n p 2 = -1) := lval_short hs
    go_enter Try.func11, Try.ntmps11
    go_wp2
    go_ret
    exact ⟨ret_int H.out.symm, rfl⟩
  by_cases hk : T p / 32 = 6
  · have hk' : (T p / 32 == 6) = true := beq_iff_eq.2 hk
    have hv : M.v0 (T p) 2 = T p % 32 := by rw [M.v0_2, if_pos hk]
    have HA : Hid (contUp T p (2 - 1) → M.lval T n p 2 = M.acc T p (T p % 32) (2 - 1)) := fun hu => by rw [lval_all hs (by rw [hv]; omega) hu, hv]
    have HB : Hid (∀ k, k < 2 - 1 → ¬ T (p + (k + 1)) / 64 = 2 → M.lval T n p 2 = -1) := fun k hk hu => lval_bad hk hu
    have hbd : Hid (∀ k, k ≤ 4 → 0 ≤ M.acc T p (T p % 32) k ∧ M.acc T p (T p % 32) k ≤ 1000000000) := fun k hk => M.acc_bd T p _ (by omega) (by omega) k hk
    clear hv
    have HK : Hid (T p / 32 = 6) := hk
    clear hk
    go_enter Try.func11, Try.ntmps11
    go_wp2
    go_loop [8, 9] (fun v i => ∃ k : Nat, k ≤ 2 - 1 ∧ i = .int .i64 (k + 1 : Nat) ∧ v = .int .i64 (M.acc T p (T p % 32) k) ∧ contUp T p k) (fun _ i => 5 - (intOf i).toNat)
    case atStart => exact ⟨0, Nat.zero_le _, rfl, rfl, fun j hj => by omega⟩
    case round =>
      obtain ⟨k, hk, rfl, rfl, hu⟩ := hrel
      have HU : Hid (contUp T p k) := hu
      clear hu
      obtain ⟨y0, y1⟩ := hbd.out k (by omega)
      by_cases hlt : k < 2 - 1
      · have hck := hT (p + (k + 1)) (by omega)
        obtain ⟨x0, x1⟩ := hb (p + (k + 1))
        by_cases hd : T (p + (k + 1)) / 64 = 2
        · have hd' : (T (p + (k + 1)) / 64 != 2) = false := by simp [hd]
          have HD : Hid (T (p + (k + 1)) / 64 = 2) := hd
          clear hd
          go_wp2
          go_round
          case rel => exact ⟨k + 1, by omega, by go_num, rfl, contUp_succ HU.out HD.out⟩
          case measure => simp [intOf]; omega
        · have hd' : (T (p + (k + 1)) / 64 != 2) = true := by simp [hd]
          have HD : Hid (M.lval T n p 2 = -1) := HB.out k hlt hd
          clear hd
          go_wp2
          go_ret
          exact ⟨ret_int HD.out.symm, rfl⟩
      · have hlt' : ¬ (((k + 1 : Nat) : Int) < 2) := by omega
        have HE : Hid (M.lval T n p 2 = M.acc T p (T p % 32) k) := by
          have : k = 2 - 1 := by omega
          subst this; exact HA.out HU.out
        go_wp2
        go_ret
        exact ⟨ret_int HE.out.symm, rfl⟩
  · have hk' : (T p / 32 == 6) = false := by simp [hk]
    have H : Hid (M.lval T n p 2 = -1) := lval_neg hs (by rw [M.v0_2, if_neg hk]; omega)
    go_enter Try.func11, Try.ntmps11
    go_wp2
    go_ret
    exact ⟨ret_int H.out.symm, rfl⟩

set_option maxHeartbeats 2000000 in
theorem value3_any (b off n cap p : Nat) (T : Nat → Int) (w : World) (hT : Tx w b off n T) (hb : ∀ i, 0 ≤ T i ∧ T i ≤ 255) (hn : n ≤ 1048576) (hp : p < n) :
    Calls Try.prog 11 #[.slice (some ⟨b, off, none⟩) n cap, .int .i64 p, .int .i64 3] w fun e w' => e = .returned (.int .i64 (M.lval T n p 3)) ∧ w' = w := by
  have hc := hT p hp
  obtain ⟨b0, b1⟩ := hb p
  by_cases hs : n < p + 3
  · have H : Hid (M.lval T n p 3 = -1) := lval_short hs
    go_enter Try.func11, Try.ntmps11
    go_wp2
    go_ret
    exact ⟨ret_int H.out.symm, rfl⟩
  by_cases hk : T p / 16 = 14
  · have hk' : (T p / 16 == 14) = true := beq_iff_eq.2 hk
    have hv : M.v0 (T p) 3 = T p % 16 := by rw [M.v0_3, if_pos hk]
    have HA : Hid (contUp T p (3 - 1) → M.lval T n p 3 = M.acc T p (T p % 16) (3 - 1)) := fun hu => by rw [lval_all hs (by rw [hv]; omega) hu, hv]
    have HB : Hid (∀ k, k < 3 - 1 → ¬ T (p + (k + 1)) / 64 = 2 → M.lval T n p 3 = -1) := fun k hk hu => lval_bad hk hu
    have hbd : Hid (∀ k, k ≤ 4 → 0 ≤ M.acc T p (T p % 16) k ∧ M.acc T p (T p % 16) k ≤ 1000000000) := fun k hk => M.acc_bd T p _ (by omega) (by omega) k hk
    clear hv
    have HK : Hid (T p / 16 = 14) := hk
    clear hk
    go_enter Try.func11, Try.ntmps11
    go_wp2
    go_loop [8, 9] (fun v i => ∃ k : Nat, k ≤ 3 - 1 ∧ i = .int .i64 (k + 1 : Nat) ∧ v = .int .i64 (M.acc T p (T p % 16) k) ∧ contUp T p k) (fun _ i => 5 - (intOf i).toNat)
    case atStart => exact ⟨0, Nat.zero_le _, rfl, rfl, fun j hj => by omega⟩
    case round =>
      obtain ⟨k, hk, rfl, rfl, hu⟩ := hrel
      have HU : Hid (contUp T p k) := hu
      clear hu
      obtain ⟨y0, y1⟩ := hbd.out k (by omega)
      by_cases hlt : k < 3 - 1
      · have hck := hT (p + (k + 1)) (by omega)
        obtain ⟨x0, x1⟩ := hb (p + (k + 1))
        by_cases hd : T (p + (k + 1)) / 64 = 2
        · have hd' : (T (p + (k + 1)) / 64 != 2) = false := by simp [hd]
          have HD : Hid (T (p + (k + 1)) / 64 = 2) := hd
          clear hd
          go_wp2
          go_round
          case rel => exact ⟨k + 1, by omega, by go_num, rfl, contUp_succ HU.out HD.out⟩
          case measure => simp [intOf]; omega
        · have hd' : (T (p + (k + 1)) / 64 != 2) = true := by simp [hd]
          have HD : Hid (M.lval T n p 3 = -1) := HB.out k hlt hd
          clear hd
          go_wp2
          go_ret
          exact ⟨ret_int HD.out.symm, rfl⟩
      · have hlt' : ¬ (((k + 1 : Nat) : Int) < 3) := by omega
        have HE : Hid (M.lval T n p 3 = M.acc T p (T p % 16) k) := by
          have : k = 3 - 1 := by omega
          subst this; exact HA.out HU.out
        go_wp2
        go_ret
        exact ⟨ret_int HE.out.symm, rfl⟩
  · have hk' : (T p / 16 == 14) = false := by simp [hk]
    have H : Hid (M.lval T n p 3 = -1) := lval_neg hs (by rw [M.v0_3, if_neg hk]; omega)
    go_enter Try.func11, Try.ntmps11
    go_wp2
    go_ret
    exact ⟨ret_int H.out.symm, rfl⟩

set_option maxHeartbeats 2000000 in
theorem value4_any (b off n cap p : Nat) (T : Nat → Int) (w : World) (hT : Tx w b off n T) (hb : ∀ i, 0 ≤ T i ∧ T i ≤ 255) (hn : n ≤ 1048576) (hp : p < n) :
    Calls Try.prog 11 #[.slice (some ⟨b, off, none⟩) n cap, .int .i64 p, .int .i64 4] w fun e w' => e = .returned (.int .i64 (M.lval T n p 4)) ∧ w' = w := by
  have hc := hT p hp
  obtain ⟨b0, b1⟩ := hb p
  by_cases hs : n < p + 4
  · have H : Hid (M.lval T n p 4 = -1) := lval_short hs
    go_enter Try.func11, Try.ntmps11
    go_wp2
    go_ret
    exact ⟨ret_int H.out.symm, rfl⟩
  by_cases hk : T p / 8 = 30
  · have hk' : (T p / 8 == 30) = true := beq_iff_eq.2 hk
    have hv : M.v0 (T p) 4 = T p % 8 := by rw [M.v0_4, if_pos hk]
    have HA : Hid (contUp T p (4 - 1) → M.lval T n p 4 = M.acc T p (T p % 8) (4 - 1)) := fun hu => by rw [lval_all hs (by rw [hv]; omega) hu, hv]
    have HB : Hid (∀ k, k < 4 - 1 → ¬ T (p + (k + 1)) / 64 = 2 → M.lval T n p 4 = -1) := fun k hk hu => lval_bad hk hu
    have hbd : Hid (∀ k, k ≤ 4 → 0 ≤ M.acc T p (T p % 8) k ∧ M.acc T p (T p % 8) k ≤ 1000000000) := fun k hk => M.acc_bd T p _ (by omega) (by omega) k hk
    clear hv
    have HK : Hid (T p / 8 = 30) := hk
    clear hk
    go_enter Try.func11, Try.ntmps11
    go_wp2
    go_loop [8, 9] (fun v i => ∃ k : Nat, k ≤ 4 - 1 ∧ i = .int .i64 (k + 1 : Nat) ∧ v = .int .i64 (M.acc T p (T p % 8) k) ∧ contUp T p k) (fun _ i => 5 - (intOf i).toNat)
    case atStart => exact ⟨0, Nat.zero_le _, rfl, rfl, fun j hj => by omega⟩
    case round =>
      obtain ⟨k, hk, rfl, rfl, hu⟩ := hrel
      have HU : Hid (contUp T p k) := hu
      clear hu
      obtain ⟨y0, y1⟩ := hbd.out k (by omega)
      by_cases hlt : k < 4 - 1
      · have hck := hT (p + (k + 1)) (by omega)
        obtain ⟨x0, x1⟩ := hb (p + (k + 1))
        by_cases hd : T (p + (k + 1)) / 64 = 2
        · have hd' : (T (p + (k + 1)) / 64 != 2) = false := by simp [hd]
          have HD : Hid (T (p + (k + 1)) / 64 = 2) := hd
          clear hd
          go_wp2
          go_round
          case rel => exact ⟨k + 1, by omega, by go_num, rfl, contUp_succ HU.out HD.out⟩
          case measure => simp [intOf]; omega
        · have hd' : (T (p + (k + 1)) / 64 != 2) = true := by simp [hd]
          have HD : Hid (M.lval T n p 4 = -1) := HB.out k hlt hd
          clear hd
          go_wp2
          go_ret
          exact ⟨ret_int HD.out.symm, rfl⟩
      · have hlt' : ¬ (((k + 1 : Nat) : Int) < 4) := by omega
        have HE : Hid (M.lval T n p 4 = M.acc T p (T p % 8) k) := by
          have : k = 4 - 1 := by omega
          subst this; exact HA.out HU.out
        go_wp2
        go_ret
        exact ⟨ret_int HE.out.symm, rfl⟩
  · have hk' : (T p / 8 == 30) = false := by simp [hk]
    have H : Hid (M.lval T n p 4 = -1) := lval_neg hs (by rw [M.v0_4, if_neg hk]; omega)
    go_enter Try.func11, Try.ntmps11
    go_wp2
    go_ret
    exact ⟨ret_int H.out.symm, rfl⟩

/-- What stands at the head of the model's loop. -/
def atHead (T : Nat → Int) (n p : Nat) (i : Value) : Prop :=
  i = .int .i64 2 ∨ (i = .int .i64 3 ∧ M.yes T n p 2 = false) ∨ (i = .int .i64 4 ∧ M.yes T n p 2 = false ∧ M.yes T n p 3 = false) ∨ (i = .int .i64 5 ∧ M.yes T n p 2 = false ∧ M.yes T n p 3 = false ∧ M.yes T n p 4 = false)

set_option maxHeartbeats 2000000 in
/-- The model's CharLen at an offset of the text. -/
theorem scharLen_in (b off n cap p : Nat) (T : Nat → Int) (w : World) (hT : Tx w b off n T) (hb : ∀ i, 0 ≤ T i ∧ T i ≤ 255) (hn : n ≤ 1048576) (hp : p < n) :
    Calls Try.prog 8 #[.slice (some ⟨b, off, none⟩) n cap, .int .i64 p] w fun e w' => e = .returned (.int .i64 (M.scl T n p : Nat)) ∧ w' = w := by
  have e2 : Hid (M.yes T n p 2 = (decide (0 ≤ M.lval T n p 2) && M.gd (M.lval T n p 2) 2)) := rfl
  have e3 : Hid (M.yes T n p 3 = (decide (0 ≤ M.lval T n p 3) && M.gd (M.lval T n p 3) 3)) := rfl
  have e4 : Hid (M.yes T n p 4 = (decide (0 ≤ M.lval T n p 4) && M.gd (M.lval T n p 4) 4)) := rfl
  have r2 : Hid (M.yes T n p 2 = true → M.scl T n p = 2) := fun h => by unfold M.scl; rw [if_pos h]
  have r3 : Hid (M.yes T n p 2 = false → M.yes T n p 3 = true → M.scl T n p = 3) := fun h h' => by unfold M.scl; rw [if_neg (by simp [h]), if_pos h']
  have r4 : Hid (M.yes T n p 2 = false → M.yes T n p 3 = false → M.yes T n p 4 = true → M.scl T n p = 4) := fun h h' h'' => by unfold M.scl; rw [if_neg (by simp [h]), if_neg (by simp [h']), if_pos h'']
  have r1 : Hid (M.yes T n p 2 = false → M.yes T n p 3 = false → M.yes T n p 4 = false → M.scl T n p = 1) := fun h h' h'' => by unfold M.scl; rw [if_neg (by simp [h]), if_neg (by simp [h']), if_neg (by simp [h''])]
  have t1 : decide (n ≤ p) = false := by simp; omega
  have t2 : decide ((p : Int) < 0) = false := by simp
  go_enter Try.func8, Try.ntmps8
  go_wp2
  go_loop [5] (fun i => atHead T n p i) (fun i => 6 - (intOf i).toNat)
  case atStart => exact .inl rfl
  case round =>
    rcases hrel with rfl | ⟨rfl, y2⟩ | ⟨rfl, y2, y3⟩ | ⟨rfl, y2, y3, y4⟩
    · have hx := value2_any b off n cap p T w hT hb hn hp
      have HX := hx
      clear hx
      by_cases hv : 0 ≤ M.lval T n p 2
      · by_cases hg : M.gd (M.lval T n p 2) 2 = true
        · have Y : Hid (M.yes T n p 2 = true) := by show _ = _; rw [e2.out, hg]; simp [hv]
          go_wp2_with (first | (go_at_call 11; refine HX.mono ?_; rintro e w' ⟨rfl, rfl⟩) | (go_at_call 12; refine (good2_any _ _).mono ?_; rintro e w' ⟨rfl, rfl⟩))
          go_ret
          exact ⟨ret_int (by rw [r2.out Y.out]; rfl), rfl⟩
        · have hg' : M.gd (M.lval T n p 2) 2 = false := by simpa using hg
          have Y : Hid (M.yes T n p 2 = false) := by show _ = _; rw [e2.out, hg']; simp
          clear hg
          go_wp2_with (first | (go_at_call 11; refine HX.mono ?_; rintro e w' ⟨rfl, rfl⟩) | (go_at_call 12; refine (good2_any _ _).mono ?_; rintro e w' ⟨rfl, rfl⟩))
          go_round
          case rel => exact .inr (.inl ⟨rfl, Y.out⟩)
          case measure => simp [intOf]
      · have Y : Hid (M.yes T n p 2 = false) := by show _ = _; rw [e2.out]; simp [hv]
        go_wp2_with (first | (go_at_call 11; refine HX.mono ?_; rintro e w' ⟨rfl, rfl⟩) | (go_at_call 12; refine (good2_any _ _).mono ?_; rintro e w' ⟨rfl, rfl⟩))
        go_round
        case rel => exact .inr (.inl ⟨rfl, Y.out⟩)
        case measure => simp [intOf]
    · have Y2 : Hid _ := y2; clear y2; have hx := value3_any b off n cap p T w hT hb hn hp
      have HX := hx
      clear hx
      by_cases hv : 0 ≤ M.lval T n p 3
      · by_cases hg : M.gd (M.lval T n p 3) 3 = true
        · have Y : Hid (M.yes T n p 3 = true) := by show _ = _; rw [e3.out, hg]; simp [hv]
          go_wp2_with (first | (go_at_call 11; refine HX.mono ?_; rintro e w' ⟨rfl, rfl⟩) | (go_at_call 12; refine (good3_any _ _).mono ?_; rintro e w' ⟨rfl, rfl⟩))
          go_ret
          exact ⟨ret_int (by rw [r3.out Y2.out Y.out]; rfl), rfl⟩
        · have hg' : M.gd (M.lval T n p 3) 3 = false := by simpa using hg
          have Y : Hid (M.yes T n p 3 = false) := by show _ = _; rw [e3.out, hg']; simp
          clear hg
          go_wp2_with (first | (go_at_call 11; refine HX.mono ?_; rintro e w' ⟨rfl, rfl⟩) | (go_at_call 12; refine (good3_any _ _).mono ?_; rintro e w' ⟨rfl, rfl⟩))
          go_round
          case rel => exact .inr (.inr (.inl ⟨rfl, Y2.out, Y.out⟩))
          case measure => simp [intOf]
      · have Y : Hid (M.yes T n p 3 = false) := by show _ = _; rw [e3.out]; simp [hv]
        go_wp2_with (first | (go_at_call 11; refine HX.mono ?_; rintro e w' ⟨rfl, rfl⟩) | (go_at_call 12; refine (good3_any _ _).mono ?_; rintro e w' ⟨rfl, rfl⟩))
        go_round
        case rel => exact .inr (.inr (.inl ⟨rfl, Y2.out, Y.out⟩))
        case measure => simp [intOf]
    · have Y2 : Hid _ := y2; have Y3 : Hid _ := y3; clear y2 y3; have hx := value4_any b off n cap p T w hT hb hn hp
      have HX := hx
      clear hx
      by_cases hv : 0 ≤ M.lval T n p 4
      · by_cases hg : M.gd (M.lval T n p 4) 4 = true
        · have Y : Hid (M.yes T n p 4 = true) := by show _ = _; rw [e4.out, hg]; simp [hv]
          go_wp2_with (first | (go_at_call 11; refine HX.mono ?_; rintro e w' ⟨rfl, rfl⟩) | (go_at_call 12; refine (good4_any _ _).mono ?_; rintro e w' ⟨rfl, rfl⟩))
          go_ret
          exact ⟨ret_int (by rw [r4.out Y2.out Y3.out Y.out]; rfl), rfl⟩
        · have hg' : M.gd (M.lval T n p 4) 4 = false := by simpa using hg
          have Y : Hid (M.yes T n p 4 = false) := by show _ = _; rw [e4.out, hg']; simp
          clear hg
          go_wp2_with (first | (go_at_call 11; refine HX.mono ?_; rintro e w' ⟨rfl, rfl⟩) | (go_at_call 12; refine (good4_any _ _).mono ?_; rintro e w' ⟨rfl, rfl⟩))
          go_round
          case rel => exact .inr (.inr (.inr ⟨rfl, Y2.out, Y3.out, Y.out⟩))
          case measure => simp [intOf]
      · have Y : Hid (M.yes T n p 4 = false) := by show _ = _; rw [e4.out]; simp [hv]
        go_wp2_with (first | (go_at_call 11; refine HX.mono ?_; rintro e w' ⟨rfl, rfl⟩) | (go_at_call 12; refine (good4_any _ _).mono ?_; rintro e w' ⟨rfl, rfl⟩))
        go_round
        case rel => exact .inr (.inr (.inr ⟨rfl, Y2.out, Y3.out, Y.out⟩))
        case measure => simp [intOf]
    · have Y : Hid (M.scl T n p = 1) := r1.out y2 y3 y4
      clear y2 y3 y4
      go_wp2
      go_ret
      exact ⟨ret_int (by rw [Y.out]; rfl), rfl⟩

end Go.Proofs.Ytcllnadfbmkigaa
