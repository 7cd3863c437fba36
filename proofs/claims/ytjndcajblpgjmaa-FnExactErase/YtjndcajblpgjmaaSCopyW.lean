/-
  Walks: the specification's copy of a body, the walk.
-/
import Derived.Test.YtjndcajblpgjmaaSCopy
namespace Go.Proofs.Ytjndcajblpgjmaa
open Go.RowKit
open M (OpD NodeD Gr)
set_option linter.unusedVariables false
set_option linter.unusedSimpArgs false

def scpI (w : World) (n : Nat) (B : Nat → OpD) (v i : Value) (wr : World) : Prop :=
  ∃ (k : Nat) (Qs : Nat → Prop) (f : Nat → Option Addr × Nat), k ≤ n ∧ i = .int .i64 (k : Int) ∧ CpB w wr B k v Qs f

/-- What the specification's copy answers. -/
def CopyIs (B : Nat → OpD) (n : Nat) (w : World) (e : Ending) (w' : World) : Prop := ∃ v Qs f, e = .returned v ∧ CpB w w' B n v Qs f

set_option maxRecDepth 100000 in
set_option maxHeartbeats 4000000 in
theorem l2copy_any (Q : Nat → Prop) (a : Option Addr) (n c : Nat) (B : Nat → OpD) (w : World) (hB : OpsA Q w a n B) (hs : SmallB n B) :
    Calls Try.prog 69 #[.slice a n c] w (CopyIs B n w) := by
  obtain ⟨hn, hsl⟩ := hs
  have HB : Hid (OpsA Q w a n B) := hB
  have HSL : Hid (∀ i, i < n → (B i).sl ≤ 1048576) := hsl
  clear hB hsl
  go_enter Try.func69, Try.ntmps69
  go_wp2
  go_loopw [3, 4] (fun v i wr => scpI w n B v i wr) (fun _ i _ => n - (intOf i).toNat)
  case atStart => exact ⟨0, fun _ => False, fun _ => (none, 0), Nat.zero_le _, rfl, .inl ⟨rfl, rfl, rfl⟩, fun _ h => h.elim, fun i hi => absurd hi (Nat.not_lt_zero _), Below.refl _ _, Soft.refl _⟩
  case round =>
    obtain ⟨m, Qs, f, hm, rfl, hcp⟩ := hrel
    by_cases hlt : m < n
    · have hB := HB.out.later hcp.bel
      rcases hB with h0 | ⟨b, off, rfl, hq, hB⟩
      · omega
      obtain ⟨c0, ⟨sa, sc, c1, hs⟩, c2⟩ := hB m hlt
      have HS : Hid (Ints Q .i64 wr sa (B m).sl (B m).set) := hs
      have hsl := HSL.out m hlt
      have hlt' : (m : Int) < (n : Int) := by omega
      obtain ⟨av, cv, rfl⟩ := hcp.own.shape
      have HCP : Hid (CpB w wr B m (.slice av m cv) Qs f) := hcp
      clear hB hs hcp
      go_wp2_with (at_builtin; refine appD rfl _ _ 57 57 rfl rfl rfl elem57 (Q := fun _ => False) (.inl ⟨rfl, rfl, rfl⟩) (Ints.srcD Try.underlying57 HS.out) (by omega) ?_; intro v1 W1 hown hgrew hsz; rw [Nat.zero_add, List.nil_append] at hown; obtain ⟨a1, c1', rfl, hI⟩ := OwnC.ints hown; have HI : Hid (Ints (fun b => False ∨ wr.heap.size ≤ b) .i64 W1 a1 (B m).sl (B m).set) := hI; have HG : Hid (Grew (fun _ => False) wr W1) := hgrew; clear hown hgrew hsz hI)
      have bb : Hid (Below wr.heap.size wr W1) := ⟨HG.out.os, HG.out.tape, HG.out.output, HG.out.size, fun b hb => HG.out.block b hb (fun q => q)⟩
      have d0 := cell_on c0 bb.out
      have d2 := cell_on c2 bb.out
      have bw : Hid (Below w.heap.size w W1) := bel_tr HCP.out.bel bb.out
      clear c0 c1 c2
      go_region_law (refine stepD rfl (.tmp 19) (.tmp 32) 74 74 rfl (v := .slice av m cv) (y := .slice (some ⟨W1.heap.size, 0, none⟩) 1 1) (by simp [Act.eval, Act.put]) (by simp [Act.eval, Act.put]) elem74 (Q := fun b => New w wr b ∧ ¬ Qs b) (HCP.out.own.on (w' := W1.drew.alloc (.cells #[.int .i64 (B m).kind, .slice a1 (B m).sl c1', .int .i64 (B m).arg] 95)) (fun x hx => (bel_tr bb.out.drew (bel1 W1.drew _)).block x hx.1.2)) (src_three (u0 := .int .i64 (B m).kind) (u1 := .slice a1 (B m).sl c1') (u2 := .int .i64 (B m).arg) (cN (W := W1.drew) W1.heap.size rfl rfl) (cN (W := W1.drew) W1.heap.size rfl rfl) (cN (W := W1.drew) W1.heap.size rfl rfl) rfl rfl rfl) (by omega) ?_
                     intro v4 W4 hown4 hgrew4 hsz4
                     have HE : Hid (scpI w n B v4 (.int .i64 ((m + 1 : Nat) : Int)) W4) := ⟨m + 1, _, _, hlt, rfl, cp_step HCP.out HI.out HG.out hown4 hgrew4⟩
                     clear hown4 hgrew4 hsz4)
      all_goals go_goals
      all_goals go_wp2
      all_goals go_roundw
      all_goals first | exact HE.out | (simp [intOf]; omega)
    · obtain rfl : m = n := by omega
      go_wp2
      go_ret
      exact ⟨_, Qs, f, rfl, hcp⟩

end Go.Proofs.Ytjndcajblpgjmaa
