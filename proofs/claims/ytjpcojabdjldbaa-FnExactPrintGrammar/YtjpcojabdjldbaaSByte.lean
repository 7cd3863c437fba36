/-
  Walks: the texts of bytes, sets and groups, by the specification.
-/
import Derived.Test.YtjpcojabdjldbaaPSet
namespace Go.Proofs.Ytjpcojabdjldbaa
open Go.RowKit
open M (OpD NodeD Gr TX byteT hexD pairT midT setT b1 grp)
set_option linter.unusedVariables false
set_option linter.unusedSimpArgs false

/-- A string is answered. -/
def GivesS (s : ByteArray) (w : World) (e : Ending) (w' : World) : Prop := e = .returned (.string s) ∧ Below w.heap.size w w'

theorem hex_str {q : Int} (h : 0 ≤ q ∧ q ≤ 15) (w : World) : (Instr.slice 9 (.string hexs) (some (.int .i64 q)) (some (.int .i64 (q + 1))) none).run Try.prog w = .ok (.string (b1 (hexD q))) w := by
  rcases hex_cases h with h | h | h | h | h | h | h | h | h | h | h | h | h | h | h | h <;> subst h <;> kernel_rfl

set_option maxHeartbeats 4000000 in
theorem l2hex_any (q : Int) (w : World) (h : 0 ≤ q ∧ q ≤ 15) : Calls Try.prog 141 #[.int .i64 q] w (GivesS (b1 (hexD q)) w) := by
  have hx := hex_str h
  unfold hexs at hx
  have h1 := h.1
  have h2 := h.2
  clear h
  go_enter Try.func141, Try.ntmps141
  go_wp2
  go_ret
  exact ⟨rfl, Below.refl _ _⟩

theorem conv1 (w : World) (z : Int) (h : 0 ≤ z ∧ z ≤ 255) : (convert 22 9 (.slice (some ⟨w.heap.size, 0, none⟩) 1 1)).run Try.prog (w.alloc (.cells #[.int .u8 z] 5)) = .ok (.string (b1 (UInt8.ofNat z.toNat))) (w.alloc (.cells #[.int .u8 z] 5)) := by
  have hI : Ints (fun _ => True) .u8 (w.alloc (.cells #[.int .u8 z] 5)) (some ⟨w.heap.size, 0, none⟩) 1 (fun _ => z) := .inr ⟨w.heap.size, 0, rfl, trivial, fun i hi => by
    obtain rfl : i = 0 := by omega
    exact cN w.heap.size rfl rfl⟩
  rw [conv_run (fun _ => True) _ 1 1 (fun _ => z) _ hI]
  have e : str 1 (fun _ => z) = b1 (UInt8.ofNat z.toNat) := by
    apply ByteArray.ext
    apply Array.toList_inj.1
    rw [str_data]
    rfl
  rw [e]

set_option maxRecDepth 100000 in
set_option maxHeartbeats 8000000 in
theorem l2byteText_any (b : Int) (w : World) (hb : 0 ≤ b ∧ b ≤ 255) : Calls Try.prog 127 #[.int .i64 b] w (GivesS (byteT b) w) := by
  have hb0 := hb.1
  have hb1 := hb.2
  have HBB : Hid (0 ≤ b ∧ b ≤ 255) := hb
  clear hb
  have hcv := conv1 w b HBB.out
  have hw8 := wrap8 HBB.out
  by_cases e10 : b = 10
  · subst e10
    go_enter Try.func127, Try.ntmps127
    go_wp2
    go_ret
    exact ⟨rfl, Below.refl _ _⟩
  by_cases e9 : b = 9
  · subst e9
    go_enter Try.func127, Try.ntmps127
    go_wp2
    go_ret
    exact ⟨rfl, Below.refl _ _⟩
  by_cases e13 : b = 13
  · subst e13
    go_enter Try.func127, Try.ntmps127
    go_wp2
    go_ret
    exact ⟨rfl, Below.refl _ _⟩
  have f10 : (b == 10) = false := by simp [e10]
  have f9 : (b == 9) = false := by simp [e9]
  have f13 : (b == 13) = false := by simp [e13]
  by_cases e6 : b = 92 ∨ b = 34 ∨ b = 91 ∨ b = 93 ∨ b = 45 ∨ b = 94
  · clear hcv hw8
    rcases e6 with rfl | rfl | rfl | rfl | rfl | rfl
    · have hcv : (convert 22 9 (.slice (some ⟨w.heap.size, 0, none⟩) 1 1)).run Try.prog (w.alloc (.cells #[.int .u8 92] 5)) = .ok (.string ⟨#[92]⟩) (w.alloc (.cells #[.int .u8 92] 5)) := conv1 w 92 ⟨by omega, by omega⟩
      go_enter Try.func127, Try.ntmps127
      go_wp2
      go_ret
      exact ⟨rfl, bel1 w _⟩
    · have hcv : (convert 22 9 (.slice (some ⟨w.heap.size, 0, none⟩) 1 1)).run Try.prog (w.alloc (.cells #[.int .u8 34] 5)) = .ok (.string ⟨#[34]⟩) (w.alloc (.cells #[.int .u8 34] 5)) := conv1 w 34 ⟨by omega, by omega⟩
      go_enter Try.func127, Try.ntmps127
      go_wp2
      go_ret
      exact ⟨rfl, bel1 w _⟩
    · have hcv : (convert 22 9 (.slice (some ⟨w.heap.size, 0, none⟩) 1 1)).run Try.prog (w.alloc (.cells #[.int .u8 91] 5)) = .ok (.string ⟨#[91]⟩) (w.alloc (.cells #[.int .u8 91] 5)) := conv1 w 91 ⟨by omega, by omega⟩
      go_enter Try.func127, Try.ntmps127
      go_wp2
      go_ret
      exact ⟨rfl, bel1 w _⟩
    · have hcv : (convert 22 9 (.slice (some ⟨w.heap.size, 0, none⟩) 1 1)).run Try.prog (w.alloc (.cells #[.int .u8 93] 5)) = .ok (.string ⟨#[93]⟩) (w.alloc (.cells #[.int .u8 93] 5)) := conv1 w 93 ⟨by omega, by omega⟩
      go_enter Try.func127, Try.ntmps127
      go_wp2
      go_ret
      exact ⟨rfl, bel1 w _⟩
    · have hcv : (convert 22 9 (.slice (some ⟨w.heap.size, 0, none⟩) 1 1)).run Try.prog (w.alloc (.cells #[.int .u8 45] 5)) = .ok (.string ⟨#[45]⟩) (w.alloc (.cells #[.int .u8 45] 5)) := conv1 w 45 ⟨by omega, by omega⟩
      go_enter Try.func127, Try.ntmps127
      go_wp2
      go_ret
      exact ⟨rfl, bel1 w _⟩
    · have hcv : (convert 22 9 (.slice (some ⟨w.heap.size, 0, none⟩) 1 1)).run Try.prog (w.alloc (.cells #[.int .u8 94] 5)) = .ok (.string ⟨#[94]⟩) (w.alloc (.cells #[.int .u8 94] 5)) := conv1 w 94 ⟨by omega, by omega⟩
      go_enter Try.func127, Try.ntmps127
      go_wp2
      go_ret
      exact ⟨rfl, bel1 w _⟩
  have n92 : (b == 92) = false := by simp; exact fun q => e6 (by omega)
  have n34 : (b == 34) = false := by simp; exact fun q => e6 (by omega)
  have n91 : (b == 91) = false := by simp; exact fun q => e6 (by omega)
  have n93 : (b == 93) = false := by simp; exact fun q => e6 (by omega)
  have n45 : (b == 45) = false := by simp; exact fun q => e6 (by omega)
  have n94 : (b == 94) = false := by simp; exact fun q => e6 (by omega)
  by_cases e7 : 32 ≤ b ∧ b ≤ 126
  · have HT : Hid (byteT b = b1 (UInt8.ofNat b.toNat)) := by
      show _ = _
      unfold byteT
      rw [if_neg e10, if_neg e9, if_neg e13, if_neg e6, if_pos e7]
      rfl
    have h7a := e7.1
    have h7b := e7.2
    rw [← HT.out] at hcv
    generalize byteT b = u at *
    clear e10 e9 e13 e6 e7
    go_enter Try.func127, Try.ntmps127
    go_wp2
    go_ret
    exact ⟨rfl, bel1 w _⟩
  · have HT : Hid (byteT b = ⟨#[92, 120]⟩ ++ b1 (hexD (b / 16)) ++ b1 (hexD (b % 16))) := by
      show _ = _
      unfold byteT
      rw [if_neg e10, if_neg e9, if_neg e13, if_neg e6, if_neg e7]
      rfl
    have hq : b.tdiv 16 = b / 16 := Int.tdiv_eq_ediv_of_nonneg hb0
    have hm : b.tmod 16 = b % 16 := Int.tmod_eq_emod_of_nonneg hb0
    have hw1 : IntKind.i64.wrap (b / 16) = b / 16 := by simp [IntKind.wrap, IntKind.bits, IntKind.signed]; omega
    have hw2 : IntKind.i64.wrap (b % 16) = b % 16 := by simp [IntKind.wrap, IntKind.bits, IntKind.signed]; omega
    have HQ1 : Hid (0 ≤ b / 16 ∧ b / 16 ≤ 15) := ⟨by omega, by omega⟩
    have HQ2 : Hid (0 ≤ b % 16 ∧ b % 16 ≤ 15) := ⟨by omega, by omega⟩
    clear hcv hw8
    generalize b / 16 = q1 at *
    generalize b % 16 = q2 at *
    by_cases e8 : 32 ≤ b
    · have e8' : ¬ b ≤ 126 := fun q => e7 ⟨e8, q⟩
      clear e10 e9 e13 e6 e7
      go_enter Try.func127, Try.ntmps127
      go_wp2_with (first | (go_at_call 141; refine (l2hex_any q1 _ HQ1.out).mono ?_; rintro e W1 ⟨rfl, hb1⟩; have B1 : Hid (Below w.heap.size w W1) := hb1; clear hb1) | (go_at_call 141; refine (l2hex_any q2 _ HQ2.out).mono ?_; rintro e W2 ⟨rfl, hb2⟩; have B2 : Hid (Below w.heap.size w W2) := bel_tr B1.out hb2; clear hb2))
      go_ret
      exact ⟨by rw [HT.out]; rfl, B2.out⟩
    · clear e10 e9 e13 e6 e7
      go_enter Try.func127, Try.ntmps127
      go_wp2_with (first | (go_at_call 141; refine (l2hex_any q1 _ HQ1.out).mono ?_; rintro e W1 ⟨rfl, hb1⟩; have B1 : Hid (Below w.heap.size w W1) := hb1; clear hb1) | (go_at_call 141; refine (l2hex_any q2 _ HQ2.out).mono ?_; rintro e W2 ⟨rfl, hb2⟩; have B2 : Hid (Below w.heap.size w W2) := bel_tr B1.out hb2; clear hb2))
      go_ret
      exact ⟨by rw [HT.out]; rfl, B2.out⟩

set_option maxHeartbeats 2000000 in
theorem l2group_any (s : ByteArray) (c : Bool) (w : World) (hs : s.size ≤ 16000000) : Calls Try.prog 89 #[.string s, .bool c] w (GivesS (grp c s) w) := by
  have h1 : ¬ 9223372036854775807 < 1 + s.size := by omega
  have h2 : ¬ 9223372036854775807 < 1 + s.size + 1 := by omega
  cases c with
  | true =>
    go_enter Try.func89, Try.ntmps89
    go_wp2
    go_ret
    exact ⟨rfl, Below.refl _ _⟩
  | false =>
    go_enter Try.func89, Try.ntmps89
    go_wp2
    go_ret
    exact ⟨rfl, Below.refl _ _⟩

end Go.Proofs.Ytjpcojabdjldbaa
