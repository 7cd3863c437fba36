/-
  Walks: the text of a byte.
-/
import Derived.Test.YtjpcojabdjldbaaPApp
namespace Go.Proofs.Ytjpcojabdjldbaa
open Go.RowKit
open M (OpD NodeD Gr TX byteT hexD)
set_option linter.unusedVariables false
set_option linter.unusedSimpArgs false

def hexs : ByteArray := ⟨#[48, 49, 50, 51, 52, 53, 54, 55, 56, 57, 97, 98, 99, 100, 101, 102]⟩
theorem hex_cases {q : Int} (h : 0 ≤ q ∧ q ≤ 15) : q = 0 ∨ q = 1 ∨ q = 2 ∨ q = 3 ∨ q = 4 ∨ q = 5 ∨ q = 6 ∨ q = 7 ∨ q = 8 ∨ q = 9 ∨ q = 10 ∨ q = 11 ∨ q = 12 ∨ q = 13 ∨ q = 14 ∨ q = 15 := by omega
theorem hex_at {q : Int} (h : 0 ≤ q ∧ q ≤ 15) (w : World) : (Instr.index 9 (.string hexs) (.int .i64 q)).run Try.prog w = .ok (.int .u8 ((hexD q).toNat : Int)) w := by
  rcases hex_cases h with h | h | h | h | h | h | h | h | h | h | h | h | h | h | h | h <;> subst h <;> kernel_rfl

theorem wrap8 {b : Int} (h : 0 ≤ b ∧ b ≤ 255) : IntKind.u8.wrap b = b := by
  simp [IntKind.wrap, IntKind.bits, IntKind.signed]
  omega
theorem u8n {b : Int} (h : 0 ≤ b ∧ b ≤ 255) : ((UInt8.ofNat b.toNat).toNat : Int) = b := by
  rw [UInt8.toNat_ofNat']
  omega

set_option maxRecDepth 100000 in
set_option maxHeartbeats 8000000 in
theorem appendByteText_any (Q : Nat → Prop) (v : Value) (r : ByteArray) (b : Int) (w : World) (h : OutQ Q w v r) (hb : 0 ≤ b ∧ b ≤ 255) (hr : r.size ≤ 16000000) :
    Calls Try.prog 143 #[v, .int .i64 b] w (Puts Q r (byteT b) w) := by
  have H : Hid (Gone Q w w v r) := Gone.start h
  have hb0 := hb.1
  have hb1 := hb.2
  have HBB : Hid (0 ≤ b ∧ b ≤ 255) := hb
  clear h hb
  by_cases e10 : b = 10
  · subst e10
    go_enter Try.func143, Try.ntmps143
    go_wp2_with (at_builtin; refine outA rfl _ _ 9 rfl rfl rfl H.out (src_str _ ⟨#[92, 110]⟩) 16000000 4 hr (by decide) (by omega) (by decide) ?_; intro W r' a' c' E1 E2 E3)
    go_ret
    exact ⟨_, rfl, E1.out ▸ E3.out⟩
  by_cases e9 : b = 9
  · subst e9
    go_enter Try.func143, Try.ntmps143
    go_wp2_with (at_builtin; refine outA rfl _ _ 9 rfl rfl rfl H.out (src_str _ ⟨#[92, 116]⟩) 16000000 4 hr (by decide) (by omega) (by decide) ?_; intro W r' a' c' E1 E2 E3)
    go_ret
    exact ⟨_, rfl, E1.out ▸ E3.out⟩
  by_cases e13 : b = 13
  · subst e13
    go_enter Try.func143, Try.ntmps143
    go_wp2_with (at_builtin; refine outA rfl _ _ 9 rfl rfl rfl H.out (src_str _ ⟨#[92, 114]⟩) 16000000 4 hr (by decide) (by omega) (by decide) ?_; intro W r' a' c' E1 E2 E3)
    go_ret
    exact ⟨_, rfl, E1.out ▸ E3.out⟩
  have f10 : (b == 10) = false := by simp [e10]
  have f9 : (b == 9) = false := by simp [e9]
  have f13 : (b == 13) = false := by simp [e13]
  by_cases e6 : b = 92 ∨ b = 34 ∨ b = 91 ∨ b = 93 ∨ b = 45 ∨ b = 94
  · rcases e6 with rfl | rfl | rfl | rfl | rfl | rfl
    · have hs0 : Hid (Src Try.prog 1 22 (.slice (some ⟨w.heap.size, 0, none⟩) 2 2) (ByteArray.mk #[92, 92]).size (bv ⟨#[92, 92]⟩) (w.alloc (.cells #[.int .u8 92, .int .u8 92] 5))) := src_new w ⟨#[92, 92]⟩ 2 2 rfl _ rfl
      go_enter Try.func143, Try.ntmps143
      go_wp2_with (at_builtin; refine outA (t := ⟨#[92, 92]⟩) rfl _ _ 22 rfl rfl rfl (H.out.later (bel1 w _)) hs0.out 16000000 4 hr (by decide) (by omega) (by decide) ?_; intro W r' a' c' E1 E2 E3)
      go_ret
      exact ⟨_, rfl, E1.out ▸ E3.out⟩
    · have hs0 : Hid (Src Try.prog 1 22 (.slice (some ⟨w.heap.size, 0, none⟩) 2 2) (ByteArray.mk #[92, 34]).size (bv ⟨#[92, 34]⟩) (w.alloc (.cells #[.int .u8 92, .int .u8 34] 5))) := src_new w ⟨#[92, 34]⟩ 2 2 rfl _ rfl
      go_enter Try.func143, Try.ntmps143
      go_wp2_with (at_builtin; refine outA (t := ⟨#[92, 34]⟩) rfl _ _ 22 rfl rfl rfl (H.out.later (bel1 w _)) hs0.out 16000000 4 hr (by decide) (by omega) (by decide) ?_; intro W r' a' c' E1 E2 E3)
      go_ret
      exact ⟨_, rfl, E1.out ▸ E3.out⟩
    · have hs0 : Hid (Src Try.prog 1 22 (.slice (some ⟨w.heap.size, 0, none⟩) 2 2) (ByteArray.mk #[92, 91]).size (bv ⟨#[92, 91]⟩) (w.alloc (.cells #[.int .u8 92, .int .u8 91] 5))) := src_new w ⟨#[92, 91]⟩ 2 2 rfl _ rfl
      go_enter Try.func143, Try.ntmps143
      go_wp2_with (at_builtin; refine outA (t := ⟨#[92, 91]⟩) rfl _ _ 22 rfl rfl rfl (H.out.later (bel1 w _)) hs0.out 16000000 4 hr (by decide) (by omega) (by decide) ?_; intro W r' a' c' E1 E2 E3)
      go_ret
      exact ⟨_, rfl, E1.out ▸ E3.out⟩
    · have hs0 : Hid (Src Try.prog 1 22 (.slice (some ⟨w.heap.size, 0, none⟩) 2 2) (ByteArray.mk #[92, 93]).size (bv ⟨#[92, 93]⟩) (w.alloc (.cells #[.int .u8 92, .int .u8 93] 5))) := src_new w ⟨#[92, 93]⟩ 2 2 rfl _ rfl
      go_enter Try.func143, Try.ntmps143
      go_wp2_with (at_builtin; refine outA (t := ⟨#[92, 93]⟩) rfl _ _ 22 rfl rfl rfl (H.out.later (bel1 w _)) hs0.out 16000000 4 hr (by decide) (by omega) (by decide) ?_; intro W r' a' c' E1 E2 E3)
      go_ret
      exact ⟨_, rfl, E1.out ▸ E3.out⟩
    · have hs0 : Hid (Src Try.prog 1 22 (.slice (some ⟨w.heap.size, 0, none⟩) 2 2) (ByteArray.mk #[92, 45]).size (bv ⟨#[92, 45]⟩) (w.alloc (.cells #[.int .u8 92, .int .u8 45] 5))) := src_new w ⟨#[92, 45]⟩ 2 2 rfl _ rfl
      go_enter Try.func143, Try.ntmps143
      go_wp2_with (at_builtin; refine outA (t := ⟨#[92, 45]⟩) rfl _ _ 22 rfl rfl rfl (H.out.later (bel1 w _)) hs0.out 16000000 4 hr (by decide) (by omega) (by decide) ?_; intro W r' a' c' E1 E2 E3)
      go_ret
      exact ⟨_, rfl, E1.out ▸ E3.out⟩
    · have hs0 : Hid (Src Try.prog 1 22 (.slice (some ⟨w.heap.size, 0, none⟩) 2 2) (ByteArray.mk #[92, 94]).size (bv ⟨#[92, 94]⟩) (w.alloc (.cells #[.int .u8 92, .int .u8 94] 5))) := src_new w ⟨#[92, 94]⟩ 2 2 rfl _ rfl
      go_enter Try.func143, Try.ntmps143
      go_wp2_with (at_builtin; refine outA (t := ⟨#[92, 94]⟩) rfl _ _ 22 rfl rfl rfl (H.out.later (bel1 w _)) hs0.out 16000000 4 hr (by decide) (by omega) (by decide) ?_; intro W r' a' c' E1 E2 E3)
      go_ret
      exact ⟨_, rfl, E1.out ▸ E3.out⟩
  have n92 : (b == 92) = false := by simp; exact fun q => e6 (by omega)
  have n34 : (b == 34) = false := by simp; exact fun q => e6 (by omega)
  have n91 : (b == 91) = false := by simp; exact fun q => e6 (by omega)
  have n93 : (b == 93) = false := by simp; exact fun q => e6 (by omega)
  have n45 : (b == 45) = false := by simp; exact fun q => e6 (by omega)
  have n94 : (b == 94) = false := by simp; exact fun q => e6 (by omega)
  by_cases e7 : 32 ≤ b ∧ b ≤ 126
  · have HT : Hid (byteT b = ⟨#[UInt8.ofNat b.toNat]⟩) := by
      show _ = _
      unfold byteT
      rw [if_neg e10, if_neg e9, if_neg e13, if_neg e6, if_pos e7]
    have h7a := e7.1
    have h7b := e7.2
    have hw8 := wrap8 HBB.out
    have hs0 : Hid (Src Try.prog 1 22 (.slice (some ⟨w.heap.size, 0, none⟩) 1 1) (byteT b).size (bv (byteT b)) (w.alloc (.cells #[.int .u8 b] 5))) := by
      show Src _ _ _ _ _ _ _
      rw [HT.out]
      exact src_new w ⟨#[UInt8.ofNat b.toNat]⟩ 1 1 rfl _ (by simp only [bv, List.map_cons, List.map_nil, u8n HBB.out])
    have ht1 : Hid ((byteT b).size = 1) := by show _ = _; rw [HT.out]; rfl
    clear e10 e9 e13 e6 e7
    go_enter Try.func143, Try.ntmps143
    go_wp2_with (at_builtin; refine outA (t := byteT b) rfl _ _ 22 rfl rfl rfl (H.out.later (bel1 w _)) hs0.out 16000000 4 hr (by rw [ht1.out]; omega) (by omega) (by rw [ht1.out]; omega) ?_; intro W r' a' c' E1 E2 E3)
    go_ret
    exact ⟨_, rfl, E1.out ▸ E3.out⟩
  · have HT : Hid (byteT b = ⟨#[92, 120, hexD (b / 16), hexD (b % 16)]⟩) := by
      show _ = _
      unfold byteT
      rw [if_neg e10, if_neg e9, if_neg e13, if_neg e6, if_neg e7]
    have hq : b.tdiv 16 = b / 16 := Int.tdiv_eq_ediv_of_nonneg hb0
    have hm : b.tmod 16 = b % 16 := Int.tmod_eq_emod_of_nonneg hb0
    have hi1 := hex_at (q := b / 16) ⟨by omega, by omega⟩
    have hi2 := hex_at (q := b % 16) ⟨by omega, by omega⟩
    have hw1 : IntKind.i64.wrap (b / 16) = b / 16 := by simp [IntKind.wrap, IntKind.bits, IntKind.signed]; omega
    have hw2 : IntKind.i64.wrap (b % 16) = b % 16 := by simp [IntKind.wrap, IntKind.bits, IntKind.signed]; omega
    unfold hexs at hi1 hi2
    obtain ⟨d1, hd1⟩ : ∃ d : Int, ((hexD (b / 16)).toNat : Int) = d := ⟨_, rfl⟩
    obtain ⟨d2, hd2⟩ : ∃ d : Int, ((hexD (b % 16)).toNat : Int) = d := ⟨_, rfl⟩
    rw [hd1] at hi1
    rw [hd2] at hi2
    have hs0 : Hid (∀ w : World, Src Try.prog 1 22 (.slice (some ⟨w.heap.size, 0, none⟩) 4 4) (byteT b).size (bv (byteT b)) (w.alloc (.cells #[.int .u8 92, .int .u8 120, .int .u8 d1, .int .u8 d2] 5))) := fun w => by
      rw [HT.out]
      exact src_new w ⟨#[92, 120, hexD (b / 16), hexD (b % 16)]⟩ 4 4 rfl _ (by rw [← hd1, ← hd2]; rfl)
    have ht1 : Hid ((byteT b).size = 4) := by show _ = _; rw [HT.out]; rfl
    clear hd1 hd2
    generalize b / 16 = q1 at *
    generalize b % 16 = q2 at *
    by_cases e8 : 32 ≤ b
    · have e8' : ¬ b ≤ 126 := fun q => e7 ⟨e8, q⟩
      clear e10 e9 e13 e6 e7
      go_enter Try.func143, Try.ntmps143
      go_wp2
      go_region_law (refine outS (t := byteT b) rfl (.tmp 41) (.tmp 48) 22 rfl (v := v) (y := .slice (some ⟨w.heap.size, 0, none⟩) 4 4) (by simp [Act.eval, Act.put]) (by simp [Act.eval, Act.put]) (H.out.later (bel1 w _).drew) (hs0.out w.drew) 16000000 4 hr (by rw [ht1.out]; omega) (by omega) (by rw [ht1.out]; omega) ?_; intro W r' a' c' E1 E2 E3)
      all_goals go_goals
      all_goals go_wp2
      all_goals go_ret
      all_goals exact ⟨_, rfl, E1.out ▸ E3.out⟩
    · clear e10 e9 e13 e6 e7
      go_enter Try.func143, Try.ntmps143
      go_wp2
      go_region_law (refine outS (t := byteT b) rfl (.tmp 41) (.tmp 48) 22 rfl (v := v) (y := .slice (some ⟨w.heap.size, 0, none⟩) 4 4) (by simp [Act.eval, Act.put]) (by simp [Act.eval, Act.put]) (H.out.later (bel1 w _).drew) (hs0.out w.drew) 16000000 4 hr (by rw [ht1.out]; omega) (by omega) (by rw [ht1.out]; omega) ?_; intro W r' a' c' E1 E2 E3)
      all_goals go_goals
      all_goals go_wp2
      all_goals go_ret
      all_goals exact ⟨_, rfl, E1.out ▸ E3.out⟩

end Go.Proofs.Ytjpcojabdjldbaa
