/-
  Walks: the reader of the code and the pieces that are drawn from it.
-/
import Derived.Test.YtkhnaogchkakpaaIter
import Derived.Test.YtkhnaogchkakpaaCopy
import Derived.Lib.SmallJoins
namespace Go.Proofs.Ytkhnaogchkakpaa
open Go.RowKit
set_option linter.unusedVariables false

/-- The reader in block R: the code in its first cell, how far it has read in the second. -/
structure Rd (w : World) (R : Nat) (a : Option Addr) (m cap : Nat) (T : Nat → Int) (i : Nat) : Prop where
  c0 : w.cell? ⟨R, 0, none⟩ = some (.slice a m cap)
  c1 : w.cell? ⟨R, 1, none⟩ = some (.int .i64 i)
  f1 : w.frozen? ⟨R, 1, none⟩ = false
  le : i ≤ m
  small : m ≤ 500
  txt : m = 0 ∨ ∃ b off, a = some ⟨b, off, none⟩ ∧ Tx w b off m T ∧ b < R
  byte : ∀ i, 0 ≤ T i ∧ T i ≤ 255

theorem Rd.lt {w : World} {R : Nat} {a : Option Addr} {m cap : Nat} {T : Nat → Int} {i : Nat} (h : Rd w R a m cap T i) : R < w.heap.size := lt_of_cell h.c0

/-- What leaves the blocks up to R alone leaves the reader. -/
theorem Rd.keep {w w' : World} {R : Nat} {a : Option Addr} {m cap : Nat} {T : Nat → Int} {i : Nat} (h : Rd w R a m cap T i) (k : Below (R + 1) w w') : Rd w' R a m cap T i :=
  ⟨(k.cell (p := ⟨R, 0, none⟩) (by show R < R + 1; omega)).trans h.c0, (k.cell (p := ⟨R, 1, none⟩) (by show R < R + 1; omega)).trans h.c1, (k.frozen (p := ⟨R, 1, none⟩) (by show R < R + 1; omega)).trans h.f1, h.le, h.small,
    h.txt.imp id (fun ⟨b, off, e, ht, hb⟩ => ⟨b, off, e, ht.below (B := R + 1) (by omega) k, hb⟩), h.byte⟩

/-- The reader has read on. -/
def RdOn (w w' : World) (R : Nat) (a : Option Addr) (m cap : Nat) (T : Nat → Int) : Prop := (∃ i, Rd w' R a m cap T i) ∧ Keep (fun k => k = R) w w'

theorem Rd.set {w : World} {R : Nat} {a : Option Addr} {m cap : Nat} {T : Nat → Int} {i j : Nat} (h : Rd w R a m cap T i) (hj : j ≤ m) : Rd (w.setCell ⟨R, 1, none⟩ (.int .i64 j)) R a m cap T j := by
  have other : (⟨R, 1, none⟩ : Addr) ≠ ⟨R, 0, none⟩ := by simp
  refine ⟨(World.cell?_setCell_other _ _ _ _ other).trans h.c0, World.cell?_setCell_same' _ _ _ (by rw [h.c1]; rfl), by rw [World.frozen?_setCell]; exact h.f1, hj, h.small, ?_, h.byte⟩
  rcases h.txt with e | ⟨b, off, e, ht, hb⟩
  · exact .inl e
  · refine .inr ⟨b, off, e, fun k hk => ?_, hb⟩
    exact (World.cell?_of_block (a := ⟨b, off + k, none⟩) (Below.heap_setCell _ _ _ _ (by show b ≠ R; omega))).trans (ht k hk)

set_option maxHeartbeats 1000000 in
theorem next_any (R : Nat) (a : Option Addr) (m cap i : Nat) (T : Nat → Int) (w : World) (h : Rd w R a m cap T i) :
    Calls Try.prog 16 #[.pointer (some ⟨R, 0, none⟩)] w fun e w' => (∃ v : Int, e = .returned (.int .i64 v) ∧ 0 ≤ v ∧ v ≤ 255) ∧ RdOn w w' R a m cap T := by
  have c0 := h.c0
  have c1 := h.c1
  have f1 := h.f1
  have hle := h.le
  have hsm := h.small
  by_cases hlt : i < m
  · obtain ⟨b, off, rfl, ht, hb⟩ : ∃ b off, a = some ⟨b, off, none⟩ ∧ Tx w b off m T ∧ b < R := by
      rcases h.txt with e | e
      · omega
      · exact e
    have ct := ht i hlt
    obtain ⟨x0, x1⟩ := h.byte i
    have d1 : decide ((m : Int) ≤ i) = false := by simp; omega
    have hlt' : (i : Int) < m := by omega
    have HS : Hid (∀ q, RdOn w ((w.drewN q).setCell ⟨R, 1, none⟩ (.int .i64 ((i : Int) + 1))) R (some ⟨b, off, none⟩) m cap T) := fun q => by
      refine ⟨⟨i + 1, ?_⟩, (Keep.of_below (below_drewN (Below.refl w.heap.size w) q) (fun k hk _ => hk)).trans (Keep.setCell _ _ _ rfl)⟩
      have := (h.keep (below_drewN (Below.refl _ _) q)).set (j := i + 1) (by omega)
      rwa [Int.natCast_add] at this
    go_enter Try.func16, Try.ntmps16
    go_wp2
    go_quiet (fail)
    go_wp2
    go_quiet (fail)
    go_wp2
    go_ret
    exact ⟨⟨T i, rfl, x0, x1⟩, HS.out _⟩
  · have d1 : decide ((m : Int) ≤ i) = true := by simp; omega
    have hlt' : (m : Int) ≤ i := by omega
    go_enter Try.func16, Try.ntmps16
    go_wp2
    go_quiet (fail)
    go_wp2
    go_ret
    exact ⟨⟨0, rfl, by omega, by omega⟩, ⟨i, h.keep (below_drewN (Below.refl _ _) _)⟩, Keep.of_below (below_drewN (Below.refl w.heap.size w) _) (fun k hk _ => hk)⟩

set_option maxHeartbeats 1000000 in
theorem left_any (R : Nat) (a : Option Addr) (m cap i : Nat) (T : Nat → Int) (w : World) (h : Rd w R a m cap T i) :
    Calls Try.prog 26 #[.pointer (some ⟨R, 0, none⟩)] w fun e w' => e = .returned (.int .i64 ((m : Int) - i)) ∧ ∃ k, w' = w.drewN k := by
  have c0 := h.c0
  have c1 := h.c1
  have hle := h.le
  have hsm := h.small
  go_enter Try.func26, Try.ntmps26
  go_wp2
  go_quiet (fail)
  go_wp2
  go_ret
  exact ⟨rfl, _, rfl⟩

theorem piece_fin {R : Nat} {a : Option Addr} {m cap i2 : Nat} {T : Nat → Int} {w w2 : World} (hk : Keep (fun k => k = R) w w2) (h2 : Rd w2 R a m cap T i2) (bs : List Int) (hl : 1 ≤ bs.length ∧ bs.length ≤ 4) (hb : ∀ x ∈ bs, 0 ≤ x ∧ x ≤ 255) :
    (∃ (g k : Nat) (Q : Nat → Int), Ending.returned (.slice (some ⟨w2.heap.size, 0, none⟩) bs.length bs.length) = .returned (.slice (some ⟨g, 0, none⟩) k k) ∧ 1 ≤ k ∧ k ≤ 4 ∧ w.heap.size ≤ g ∧
      Tx (w2.alloc (.cells (bs.map (fun x => Value.int .u8 x)).toArray 5)) g 0 k Q ∧ ∀ i, 0 ≤ Q i ∧ Q i ≤ 255) ∧ RdOn w (w2.alloc (.cells (bs.map (fun x => Value.int .u8 x)).toArray 5)) R a m cap T := by
  have hlt := h2.lt
  refine ⟨⟨w2.heap.size, bs.length, fun i => bs.getD i 0, rfl, hl.1, hl.2, hk.size, fun i hi => ?_, fun i => ?_⟩, ⟨i2, h2.keep ((Below.refl _ w2).alloc (by omega) _)⟩, hk.trans (Keep.alloc _ _ _)⟩
  · have h := World.alloc_heap_new w2 (.cells (bs.map (fun x => Value.int .u8 x)).toArray 5)
    simp only [World.cell?, h]
    simp [hi]
  · by_cases hi : i < bs.length
    · have e : bs.getD i 0 = bs[i] := by simp [hi]
      show 0 ≤ bs.getD i 0 ∧ bs.getD i 0 ≤ 255
      rw [e]; exact hb _ (List.getElem_mem hi)
    · have e : bs.getD i 0 = 0 := by simp [hi]
      show 0 ≤ bs.getD i 0 ∧ bs.getD i 0 ≤ 255
      rw [e]; omega

set_option maxHeartbeats 1000000 in
theorem piece_any (R : Nat) (a : Option Addr) (m cap i : Nat) (T : Nat → Int) (w : World) (h : Rd w R a m cap T i) :
    Calls Try.prog 27 #[.pointer (some ⟨R, 0, none⟩)] w fun e w' => (∃ (g k : Nat) (Q : Nat → Int), e = .returned (.slice (some ⟨g, 0, none⟩) k k) ∧ 1 ≤ k ∧ k ≤ 4 ∧ w.heap.size ≤ g ∧ Tx w' g 0 k Q ∧ ∀ i, 0 ≤ Q i ∧ Q i ≤ 255) ∧ RdOn w w' R a m cap T := by
  go_enter Try.func27, Try.ntmps27
  go_wp2_with fail
  refine (next_any R a m cap i T _ h).mono ?_
  rintro e w1 ⟨⟨v, rfl, v0, v1⟩, ⟨i1, h1⟩, k1⟩
  go_wp2_with fail
  refine (next_any R a m cap i1 T _ h1).mono ?_
  rintro e w2 ⟨⟨u, rfl, u0, u1⟩, ⟨i2, h2⟩, k2⟩
  have hk := k1.trans k2
  have hc : v % 16 < 4 ∨ v % 16 = 4 ∨ v % 16 = 5 ∨ v % 16 = 6 ∨ v % 16 = 7 ∨ v % 16 = 8 ∨ v % 16 = 9 ∨ v % 16 = 10 ∨ v % 16 = 11 ∨ v % 16 = 12 ∨ v % 16 = 13 ∨ v % 16 = 14 ∨ v % 16 = 15 := by omega
  rcases hc with hm | hm | hm | hm | hm | hm | hm | hm | hm | hm | hm | hm | hm
  · go_wp2
    go_ret
    refine piece_fin hk h2 [_] ⟨by simp, by simp⟩ ?_
    intro x hx
    simp at hx
    omega
  · go_wp2
    go_ret
    refine piece_fin hk h2 [_] ⟨by simp, by simp⟩ ?_
    intro x hx
    simp at hx
    omega
  · go_wp2
    go_ret
    refine piece_fin hk h2 [_, _] ⟨by simp, by simp⟩ ?_
    intro x hx
    simp at hx
    omega
  · go_wp2
    go_ret
    refine piece_fin hk h2 [_, _, _] ⟨by simp, by simp⟩ ?_
    intro x hx
    simp at hx
    omega
  · go_wp2
    go_ret
    refine piece_fin hk h2 [_, _, _, _] ⟨by simp, by simp⟩ ?_
    intro x hx
    simp at hx
    omega
  · go_wp2
    go_ret
    refine piece_fin hk h2 [_, _, _] ⟨by simp, by simp⟩ ?_
    intro x hx
    simp at hx
    omega
  · go_wp2
    go_ret
    refine piece_fin hk h2 [_, _, _, _] ⟨by simp, by simp⟩ ?_
    intro x hx
    simp at hx
    omega
  · go_wp2
    go_ret
    refine piece_fin hk h2 [_, _] ⟨by simp, by simp⟩ ?_
    intro x hx
    simp at hx
    omega
  · go_wp2
    go_ret
    refine piece_fin hk h2 [_, _, _] ⟨by simp, by simp⟩ ?_
    intro x hx
    simp at hx
    omega
  · go_wp2
    go_ret
    refine piece_fin hk h2 [_, _, _] ⟨by simp, by simp⟩ ?_
    intro x hx
    simp at hx
    omega
  · go_wp2
    go_ret
    refine piece_fin hk h2 [_, _, _, _] ⟨by simp, by simp⟩ ?_
    intro x hx
    simp at hx
    omega
  · go_wp2
    go_ret
    refine piece_fin hk h2 [_, _, _, _] ⟨by simp, by simp⟩ ?_
    intro x hx
    simp at hx
    omega
  · go_wp2
    go_ret
    refine piece_fin hk h2 [_, _, _] ⟨by simp, by simp⟩ ?_
    intro x hx
    simp at hx
    omega

end Go.Proofs.Ytkhnaogchkakpaa
