/-
  The walk over the law FnExactRender.
-/
import Derived.Test.YtkgopipejgcbiaaDoorVal
namespace Go.Proofs.YtkgopipejgcbiaaDoor
open Go.RowKit
set_option linter.unusedVariables false

theorem Below.step {A B : Nat} {a b c : World} (h : Below A a b) (k : Below B b c) (hB : A ≤ B) : Below A a c := h.trans (k.mono hB)

theorem keep_below {C : Nat → Prop} {A : Nat} {a b c : World} (h : Below A a b) (hA : A ≤ b.heap.size) (k : Keep C b c) (hc : ∀ j, j < A → ¬ C j) : Below A a c := h.trans (k.below hA hc)

set_option maxRecDepth 100000 in
set_option maxHeartbeats 2000000 in
theorem law_walk (a0 : Option Addr) (n c0 : Nat) (T : Nat → Int) (q : Int) (a2 : Option Addr) (m c2 : Nat) (M' : Nat → Int) (w : World) (hT : ArgT w a0 n T) (hbT : ∀ i, 0 ≤ T i ∧ T i ≤ 255) (hM : ArgT w a2 m M') (hbM : ∀ i, 0 ≤ M' i ∧ M' i ≤ 255) (htab : Tab w) :
    Calls Tryd.prog 3 #[.slice a0 n c0, .int .i64 q, .slice a2 m c2] w fun e w' => e = .returned (.bool true) ∧ Below w.heap.size w w' := by
  by_cases hbig : 1048576 < n
  · have hd : (1048576 : Int) < (n : Int) := by omega
    go_enter Tryd.func3, Tryd.ntmps3
    go_wp2
    go_ret
    exact ⟨rfl, Below.refl _ _⟩
  by_cases hbig2 : 1048576 < m
  · have hd : (1048576 : Int) < (m : Int) := by omega
    have hd' : ¬ ((1048576 : Int) < (n : Int)) := by omega
    go_enter Tryd.func3, Tryd.ntmps3
    go_wp2
    go_ret
    exact ⟨rfl, Below.refl _ _⟩
  have hn : n ≤ 1048576 := by omega
  have hm : m ≤ 1048576 := by omega
  have hd : ¬ ((1048576 : Int) < (n : Int)) := by omega
  have hd' : ¬ ((1048576 : Int) < (m : Int)) := by omega
  clear hbig hbig2
  go_enter Tryd.func3, Tryd.ntmps3
  go_wp2_with fail
  refine (copyT a0 n c0 T _ hT hbT hn).mono ?_
  rintro e W1 ⟨rfl, t1, _, b1, s1⟩
  go_wp2_with fail
  refine (copyT a2 m c2 M' _ (hM.later b1) hbM hm).mono ?_
  rintro e W2 ⟨rfl, t2, _, b2, s2⟩
  have x2 : Below w.heap.size w W2 := Below.step b1 b2 b1.size
  go_wp2_with fail
  refine (srender_any _ n n q T _ m m M' _ (t1.later b2) hbT hn t2 hm).mono ?_
  rintro e W3 ⟨v3, zs, rfl, A3, V3, b3⟩
  have x3 : Below w.heap.size w W3 := Below.step x2 b3 x2.size
  obtain ⟨z1, z2⟩ := A3.facts hbT hbM hn hm
  go_wp2_with fail
  refine (copyT a0 n c0 T _ (hT.later x3) hbT hn).mono ?_
  rintro e W4 ⟨rfl, t4, p4, b4, s4⟩
  have x4 : Below w.heap.size w W4 := Below.step x3 b4 x3.size
  go_wp2_with fail
  refine (copyT a2 m c2 M' _ (hM.later x4) hbM hm).mono ?_
  rintro e W5 ⟨rfl, t5, p5, b5, s5⟩
  have x5 : Below w.heap.size w W5 := Below.step x4 b5 x4.size
  go_wp2_with fail
  refine (render_any _ n n q T _ m m M' _ (t4.later b5) hbT hn (Nat.le_refl _) t5 hm (htab.on x5)).mono ?_
  rintro e W6 ⟨v6, zs', rfl, A6, V6, b6⟩
  have x6 : Below w.heap.size w W6 := Below.step x5 b6 x5.size
  obtain rfl := A3.unique A6
  have y36 : Below W3.heap.size W3 W6 := Below.step (Below.step b4 b5 b4.size) b6 (Below.step b4 b5 b4.size).size
  have y46 : Below W4.heap.size W4 W6 := Below.step b5 b6 b5.size
  go_wp2_with fail
  refine (eqV _ V6 (V3.later y36) z2 (by omega)).mono ?_
  rintro e W7 ⟨rfl, b7⟩
  have x7 : Below w.heap.size w W7 := Below.step x6 b7 x6.size
  have y37 : Below W3.heap.size W3 W7 := Below.step y36 b7 y36.size
  have y47 : Below W4.heap.size W4 W7 := Below.step y46 b7 y46.size
  have y57 : Below W5.heap.size W5 W7 := Below.step b6 b7 b6.size
  go_wp2_with fail
  refine (copyT a0 n c0 T _ (hT.later x7) hbT hn).mono ?_
  rintro e W8 ⟨rfl, t8, _, b8, s8⟩
  have x8 : Below w.heap.size w W8 := Below.step x7 b8 x7.size
  have y48 : Below W4.heap.size W4 W8 := Below.step y47 b8 y47.size
  go_wp2_with fail
  refine (eqT _ n _ n n T _ (t4.later y48) t8 hbT hn).mono ?_
  rintro e W9 ⟨rfl, b9⟩
  have x9 : Below w.heap.size w W9 := Below.step x8 b9 x8.size
  have y79 : Below W7.heap.size W7 W9 := Below.step b8 b9 b8.size
  go_wp2_with fail
  refine (copyT a2 m c2 M' _ (hM.later x9) hbM hm).mono ?_
  rintro e W10 ⟨rfl, t10, _, b10, s10⟩
  have x10 : Below w.heap.size w W10 := Below.step x9 b10 x9.size
  have y710 : Below W7.heap.size W7 W10 := Below.step y79 b10 y79.size
  have y510 : Below W5.heap.size W5 W10 := Below.step y57 y710 y57.size
  go_wp2_with fail
  refine (eqT _ m _ m m M' _ (t5.later y510) t10 hbM hm).mono ?_
  rintro e W11 ⟨rfl, b11⟩
  have x11 : Below w.heap.size w W11 := Below.step x10 b11 x10.size
  have y711 : Below W7.heap.size W7 W11 := Below.step y710 b11 y710.size
  have y611 : Below W6.heap.size W6 W11 := Below.step b7 y711 b7.size
  have y511 : Below W5.heap.size W5 W11 := Below.step b6 y611 b6.size
  have y411 : Below W4.heap.size W4 W11 := Below.step b5 y511 b5.size
  have y311 : Below W3.heap.size W3 W11 := Below.step b4 y411 b4.size
  go_wp2_with fail
  refine (mark_wr _ n n 1 _ (p4.later y411) (by omega) (by omega)).mono ?_
  rintro e W12 ⟨rfl, _, k12, z12⟩
  have x12 : Below w.heap.size w W12 := keep_below x11 x11.size k12 (fun j hj e => by have := x3.size; omega)
  have V6a := (V6.later y611).keep k12 (fun g h1 h2 e => by omega)
  have V3a := (V3.later y311).keep k12 (fun g h1 h2 e => by omega)
  have p5a := (p5.later y511).keep k12 (fun e => by omega)
  obtain ⟨S, hS⟩ : ∃ S, S = 1 + n := ⟨_, rfl⟩
  rw [← hS]
  have hS' : S ≤ 1048577 := by omega
  clear hS z12
  go_wp2_with fail
  refine (mark_wr _ m m S _ p5a (by omega) (by omega)).mono ?_
  rintro e W13 ⟨rfl, _, k13, z13⟩
  have x13 : Below w.heap.size w W13 := keep_below x12 x12.size k13 (fun j hj e => by have := x4.size; omega)
  have V6b := V6a.keep k13 (fun g h1 h2 e => by omega)
  have V3b := V3a.keep k13 (fun g h1 h2 e => by omega)
  obtain ⟨S2, hS2⟩ : ∃ S2, S2 = S + m := ⟨_, rfl⟩
  rw [← hS2]
  have d2 : decide ((S2 : Int) < 0) = false := by simp
  clear hS2 z13 hS'
  go_wp2_with fail
  refine (eqV _ V6b V3b z2 (by omega)).mono ?_
  rintro e W14 ⟨rfl, b14⟩
  have x14 : Below w.heap.size w W14 := Below.step x13 b14 x13.size
  go_wp2_with fail
  refine (markV 1 _ (V6b.later b14) (by omega) (by omega)).mono ?_
  rintro e W15 ⟨rfl, m15, k15, z15⟩
  have x15 : Below w.heap.size w W15 := keep_below x14 x14.size k15 (fun j hj e => by have := x5.size; omega)
  have V3c := (V3b.later b14).keep k15 (fun g h1 h2 e => by omega)
  obtain ⟨S3, hS3⟩ : ∃ S3, S3 = 1 + zs.length := ⟨_, rfl⟩
  rw [← hS3]
  have HS3 : Hid (S3 = 1 + zs.length) := hS3
  clear hS3
  go_wp2_with fail
  refine (heldV zs.length 1 _ m15 (by omega) (by omega)).mono ?_
  rintro e W15' ⟨rfl, hw⟩
  subst W15'
  rw [← HS3.out]
  have d3 : decide ((S3 : Int) < 0) = false := by simp
  have d4 : ((S3 : Int) != S3) = false := by simp
  clear HS3 z15
  go_wp2_with fail
  refine (copyT a0 n c0 T _ (hT.later x15) hbT hn).mono ?_
  rintro e W16 ⟨rfl, t16, _, b16, s16⟩
  have x16 : Below w.heap.size w W16 := Below.step x15 b16 x15.size
  go_wp2_with fail
  refine (copyT a2 m c2 M' _ (hM.later x16) hbM hm).mono ?_
  rintro e W17 ⟨rfl, t17, _, b17, s17⟩
  have x17 : Below w.heap.size w W17 := Below.step x16 b17 x16.size
  go_wp2_with fail
  refine (render_any _ n n q T _ m m M' _ (t16.later b17) hbT hn (Nat.le_refl _) t17 hm (htab.on x17)).mono ?_
  rintro e W18 ⟨v18, ys, rfl, A18, V18, b18⟩
  have x18 : Below w.heap.size w W18 := Below.step x17 b18 x17.size
  obtain rfl := A3.unique A18
  have y1518 : Below W15.heap.size W15 W18 := Below.step (Below.step b16 b17 b16.size) b18 (Below.step b16 b17 b16.size).size
  go_wp2_with fail
  refine (eqV _ V18 (V3c.later y1518) z2 (by omega)).mono ?_
  rintro e W19 ⟨rfl, b19⟩
  have x19 : Below w.heap.size w W19 := Below.step x18 b19 x18.size
  go_wp2
  go_ret
  exact ⟨rfl, x19⟩

end Go.Proofs.YtkgopipejgcbiaaDoor
