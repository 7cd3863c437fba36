/-
  Walks: characters (the program's CharLen).
-/
import Derived.Test.YtcllnadfbmkigaaChecked
import Derived.Test.YtcllnadfbmkigaaPure
import Derived.WalkKit
import Derived.WalkSpells
import Derived.WalkLawsBesides
import Derived.Outline
namespace Go.Proofs.Ytcllnadfbmkigaa
open Go.RowKit

/-- The n cells from off on hold the bytes T. -/
def Tx (w : World) (b off n : Nat) (T : Nat → Int) : Prop := ∀ i, i < n → w.cell? ⟨b, off + i, none⟩ = some (.int .u8 (T i))

theorem ret_int {k : IntKind} {a b : Int} (h : a = b) : Ending.returned (.int k a) = .returned (.int k b) := by rw [h]

set_option maxHeartbeats 400000 in
theorem leadSize_any (b : Int) (w : World) (h0 : 0 ≤ b) (h1 : b ≤ 255) :
    Calls Try.prog 23 #[.int .u8 b] w fun e w' => e = .returned (.int .i64 (M.lsz b : Nat)) ∧ w' = w := by
  have hc : (194 ≤ b ∧ b ≤ 223) ∨ (224 ≤ b ∧ b ≤ 239) ∨ (240 ≤ b ∧ b ≤ 244) ∨ (b < 194 ∨ 244 < b) := by omega
  have hx : Hid (M.lsz b = if 194 ≤ b ∧ b ≤ 223 then 2 else if 224 ≤ b ∧ b ≤ 239 then 3 else if 240 ≤ b ∧ b ≤ 244 then 4 else 1) := rfl
  rcases hc with ⟨h2, h3⟩ | ⟨h2, h3⟩ | ⟨h2, h3⟩ | h2
  · go_enter Try.func23, Try.ntmps23
    go_wp2
    go_ret
    exact ⟨ret_int (by rw [hx.out, if_pos ⟨h2, h3⟩]; rfl), rfl⟩
  · go_enter Try.func23, Try.ntmps23
    go_wp2
    go_ret
    exact ⟨ret_int (by rw [hx.out, if_neg (by omega), if_pos ⟨h2, h3⟩]; rfl), rfl⟩
  · go_enter Try.func23, Try.ntmps23
    go_wp2
    go_ret
    exact ⟨ret_int (by rw [hx.out, if_neg (by omega), if_neg (by omega), if_pos ⟨h2, h3⟩]; rfl), rfl⟩
  · have hy : Hid (M.lsz b = 1) := by show M.lsz b = 1; rw [hx.out, if_neg (by omega), if_neg (by omega), if_neg (by omega)]
    rcases h2 with h2 | h2
    · go_enter Try.func23, Try.ntmps23
      go_wp2
      go_ret
      exact ⟨ret_int (by rw [hy.out]; rfl), rfl⟩
    · go_enter Try.func23, Try.ntmps23
      go_wp2
      go_ret
      exact ⟨ret_int (by rw [hy.out]; rfl), rfl⟩

theorem ret_two {k : IntKind} {a b c d : Int} (h : a = b) (h' : c = d) : Ending.returned (.tuple #[.int k a, .int k c]) = .returned (.tuple #[.int k b, .int k d]) := by rw [h, h']

set_option maxHeartbeats 400000 in
theorem secondBounds_any (b : Int) (w : World) (h0 : 0 ≤ b) (h1 : b ≤ 255) :
    Calls Try.prog 24 #[.int .u8 b] w fun e w' => e = .returned (.tuple #[.int .u8 (M.lo2 b), .int .u8 (M.hi2 b)]) ∧ w' = w := by
  by_cases c1 : b = 224
  · subst c1
    go_enter Try.func24, Try.ntmps24
    go_wp2
    go_ret2
    exact ⟨rfl, rfl⟩
  by_cases c2 : b = 237
  · subst c2
    go_enter Try.func24, Try.ntmps24
    go_wp2
    go_ret2
    exact ⟨rfl, rfl⟩
  by_cases c3 : b = 240
  · subst c3
    go_enter Try.func24, Try.ntmps24
    go_wp2
    go_ret2
    exact ⟨rfl, rfl⟩
  by_cases c4 : b = 244
  · subst c4
    go_enter Try.func24, Try.ntmps24
    go_wp2
    go_ret2
    exact ⟨rfl, rfl⟩
  have H : Hid (M.lo2 b = 128 ∧ M.hi2 b = 191) := by
    refine ⟨?_, ?_⟩
    · unfold M.lo2; rw [if_neg c1, if_neg c2, if_neg c3]
    · unfold M.hi2; rw [if_neg c1, if_neg c2, if_neg c3, if_neg c4]
  have d1 : (b == 224) = false := beq_eq_false_iff_ne.2 c1
  have d2 : (b == 237) = false := beq_eq_false_iff_ne.2 c2
  have d3 : (b == 240) = false := beq_eq_false_iff_ne.2 c3
  have d4 : (b == 244) = false := beq_eq_false_iff_ne.2 c4
  go_enter Try.func24, Try.ntmps24
  go_wp2
  go_ret2
  exact ⟨ret_two H.out.1.symm H.out.2.symm, rfl⟩

theorem lo2_bd (b : Int) : 0 ≤ M.lo2 b ∧ M.lo2 b ≤ 255 := by unfold M.lo2; split <;> (try split) <;> (try split) <;> omega
theorem hi2_bd (b : Int) : 0 ≤ M.hi2 b ∧ M.hi2 b ≤ 255 := by unfold M.hi2; split <;> (try split) <;> (try split) <;> (try split) <;> omega
theorem loB_bd (b : Int) (k : Nat) : 0 ≤ M.loB b k ∧ M.loB b k ≤ 255 := by unfold M.loB; split; exact lo2_bd b; omega
theorem hiB_bd (b : Int) (k : Nat) : 0 ≤ M.hiB b k ∧ M.hiB b k ≤ 255 := by unfold M.hiB; split; exact hi2_bd b; omega

/-- The first k further bytes are as they must be. -/
def upTo (T : Nat → Int) (p k : Nat) : Prop := ∀ j, j < k → M.loB (T p) j ≤ T (p + 1 + j) ∧ T (p + 1 + j) ≤ M.hiB (T p) j

theorem cl_short {T : Nat → Int} {n p : Nat} (h : n - p < M.lsz (T p)) : M.cl T n p = 1 := by unfold M.cl; rw [if_neg (by omega)]
theorem cl_all {T : Nat → Int} {n p : Nat} (h : M.lsz (T p) ≤ n - p) (hu : upTo T p (M.lsz (T p) - 1)) : M.cl T n p = M.lsz (T p) := by
  unfold M.cl; rw [if_pos h, if_pos (by unfold M.good; exact decide_eq_true hu)]
theorem cl_bad {T : Nat → Int} {n p k : Nat} (hk : k < M.lsz (T p) - 1) (hu : ¬ (M.loB (T p) k ≤ T (p + 1 + k) ∧ T (p + 1 + k) ≤ M.hiB (T p) k)) : M.cl T n p = 1 := by
  unfold M.cl; split
  · rw [if_neg (by unfold M.good; intro hd; exact hu (of_decide_eq_true hd k hk))]
  · rfl
theorem upTo_succ {T : Nat → Int} {p k : Nat} (h : upTo T p k) (hk : M.loB (T p) k ≤ T (p + 1 + k) ∧ T (p + 1 + k) ≤ M.hiB (T p) k) : upTo T p (k + 1) := fun j hj => by
  by_cases e : j = k
  · subst e; exact hk
  · exact h j (by omega)
theorem loB_succ (b : Int) (k : Nat) : M.loB b (k + 1) = 128 := by simp [M.loB]
theorem hiB_succ (b : Int) (k : Nat) : M.hiB b (k + 1) = 191 := by simp [M.hiB]

set_option maxHeartbeats 1000000 in
/-- The program's CharLen at an offset of the text. -/
theorem charLen_in (b off n cap p : Nat) (T : Nat → Int) (w : World) (hT : Tx w b off n T) (hb : ∀ i, 0 ≤ T i ∧ T i ≤ 255) (hn : n ≤ 1048576) (hcap : n ≤ cap) (hp : p < n) :
    Calls Try.prog 22 #[.slice (some ⟨b, off, none⟩) n cap, .int .i64 p] w fun e w' => e = .returned (.int .i64 (M.cl T n p : Nat)) ∧ w' = w := by
  have hc := hT p hp
  have hl := M.lsz_pos (T p)
  obtain ⟨b0, b1⟩ := hb p
  by_cases hs : n - p < M.lsz (T p)
  · have H : Hid (M.cl T n p = 1) := cl_short hs
    go_enter Try.func22, Try.ntmps22
    go_wp2_with (first | (go_at_call 23; refine (leadSize_any _ _ (by assumption) (by assumption)).mono ?_; rintro e w' ⟨rfl, rfl⟩) | (go_at_call 24; refine (secondBounds_any _ _ (by assumption) (by assumption)).mono ?_; rintro e w' ⟨rfl, rfl⟩))
    go_ret
    exact ⟨ret_int (by rw [H.out]; rfl), rfl⟩
  · have hcl : Hid (upTo T p (M.lsz (T p) - 1) → M.cl T n p = M.lsz (T p)) := fun hu => cl_all (by omega) hu
    have hcb : Hid (∀ k, k < M.lsz (T p) - 1 → ¬ (M.loB (T p) k ≤ T (p + 1 + k) ∧ T (p + 1 + k) ≤ M.hiB (T p) k) → M.cl T n p = 1) := fun k hk hu => cl_bad hk hu
    by_cases hz : cap = p + 1
    · subst hz
      have H : Hid (M.lsz (T p) = 1) := by show _ = _; omega
      go_enter Try.func22, Try.ntmps22
      go_wp2_with (first | (go_at_call 23; refine (leadSize_any _ _ (by assumption) (by assumption)).mono ?_; rintro e w' ⟨rfl, rfl⟩) | (go_at_call 24; refine (secondBounds_any _ _ (by assumption) (by assumption)).mono ?_; rintro e w' ⟨rfl, rfl⟩))
      go_loop [44] (fun i => i = .int .i64 0) (fun _ => 0)
      case atStart => rfl
      case round =>
        subst hrel
        have hd : ¬ ((0 : Int) < ((p + M.lsz (T p) - (p + 1) : Nat) : Int)) := by have := H.out; omega
        go_wp2
        go_ret
        exact ⟨ret_int (by rw [hcl.out (by rw [H.out]; intro j hj; omega)]), rfl⟩
    · go_enter Try.func22, Try.ntmps22
      go_wp2_with (first | (go_at_call 23; refine (leadSize_any _ _ (by assumption) (by assumption)).mono ?_; rintro e w' ⟨rfl, rfl⟩) | (go_at_call 24; refine (secondBounds_any _ _ (by assumption) (by assumption)).mono ?_; rintro e w' ⟨rfl, rfl⟩))
      go_loop [7, 8, 44] (fun lo hi i => ∃ k : Nat, k ≤ M.lsz (T p) - 1 ∧ i = .int .i64 k ∧ lo = .int .u8 (M.loB (T p) k) ∧ hi = .int .u8 (M.hiB (T p) k) ∧ upTo T p k) (fun _ _ i => 4 - (intOf i).toNat)
      case atStart => exact ⟨0, Nat.zero_le _, rfl, rfl, rfl, fun j hj => by omega⟩
      case round =>
        obtain ⟨k, hk, rfl, rfl, rfl, hu⟩ := hrel
        have HU : Hid (upTo T p k) := hu
        clear hu
        by_cases hlt : k < M.lsz (T p) - 1
        · have hck : w'.cell? ⟨b, off + (p + 1) + k, none⟩ = some (.int .u8 (T (p + 1 + k))) := by have := hT (p + 1 + k) (by omega); rw [Nat.add_assoc]; exact this
          have hlt' : (k : Int) < ((p + M.lsz (T p) - (p + 1) : Nat) : Int) := by omega
          obtain ⟨x0, x1⟩ := hb (p + 1 + k)
          obtain ⟨l0, l1⟩ := loB_bd (T p) k
          obtain ⟨g0, g1⟩ := hiB_bd (T p) k
          have hbad := hcb.out k hlt
          have HB : Hid (¬ (M.loB (T p) k ≤ T (p + 1 + k) ∧ T (p + 1 + k) ≤ M.hiB (T p) k) → M.cl T n p = 1) := hbad
          clear hbad
          go_wp2
          · go_ret
            exact ⟨ret_int (by rw [HB.out (by omega)]; rfl), rfl⟩
          · go_round
            case rel => exact ⟨k + 1, by omega, by go_num, by rw [loB_succ], by rw [hiB_succ], upTo_succ HU.out (by omega)⟩
            case measure => simp [intOf]; omega
          · go_ret
            exact ⟨ret_int (by rw [HB.out (by omega)]; rfl), rfl⟩
        · have hlt' : ¬ ((k : Int) < ((p + M.lsz (T p) - (p + 1) : Nat) : Int)) := by omega
          go_wp2
          go_ret
          exact ⟨ret_int (by rw [hcl.out (by have : k = M.lsz (T p) - 1 := by omega
                                             rw [← this]; exact HU.out)]), rfl⟩

end Go.Proofs.Ytcllnadfbmkigaa
