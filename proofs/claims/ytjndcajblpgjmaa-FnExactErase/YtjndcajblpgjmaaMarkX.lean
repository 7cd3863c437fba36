/-
  Walks: marks and what is held, number by number: rows of numbers.
-/
import Derived.Test.YtjndcajblpgjmaaMarkS
namespace Go.Proofs.Ytjndcajblpgjmaa
open Go.RowKit
open M (OpD NodeD Gr)
set_option linter.unusedVariables false

/-- The numbers from k on, as a kind holds them. -/
def from_ (κ : IntKind) (k : Int) : Nat → Int := fun i => κ.wrap (k + i)

def mxI (Q : Nat → Prop) (κ : IntKind) (w : World) (a : Option Addr) (n : Nat) (k : Int) (kv i : Value) (wr : World) : Prop :=
  ∃ m : Nat, m ≤ n ∧ kv = .int .i64 (k + m) ∧ i = .int .i64 (m : Int) ∧ Wrote Q w wr ∧ Ints Q κ wr a m (from_ κ k)

/-- What a mark answers: the next number, and the numbers lie there. -/
structure MarkX (A : World → Prop) (Q : Nat → Prop) (k' : Int) (w : World) (e : Ending) (w' : World) : Prop where
  val : e = .returned (.int .i64 k')
  lies : A w'
  wrote : Wrote Q w w'

theorem mx_snoc {Q : Nat → Prop} {κ : IntKind} {wr : World} {b off m : Nat} {k : Int} {u : Value} (h : Ints Q κ wr (some ⟨b, off, none⟩) m (from_ κ k)) (hq : Q b) (hc : wr.cell? ⟨b, off + m, none⟩ = some u) :
    Ints Q κ (wr.setCell ⟨b, off + m, none⟩ (.int κ (κ.wrap (k + m)))) (some ⟨b, off, none⟩) (m + 1) (from_ κ k) := by
  refine .inr ⟨b, off, rfl, hq, fun i hi => ?_⟩
  by_cases e : i = m
  · subst e; exact World.cell?_setCell_same _ _ _ hc
  · rw [World.cell?_setCell_other _ _ _ _ (fun q => e (by injection q with _ q; omega))]
    rcases h with h | ⟨b', off', e', _, h⟩
    · omega
    · cases e'
      exact h i (by omega)

theorem wrap_i64 {x : Int} (h0 : 0 ≤ x) (h1 : x < 9223372036854775808) : IntKind.i64.wrap x = x := by
  have e : x % 18446744073709551616 = x := Int.emod_eq_of_lt h0 (by omega)
  simp [IntKind.wrap, IntKind.signed, IntKind.bits, e]
  omega

set_option maxHeartbeats 1000000 in
theorem markIntS_exact (Q : Nat → Prop) (a : Option Addr) (n c : Nat) (S : Nat → Int) (k : Int) (w : World) (hS : Ints Q .i64 w a n S) (hf : SoftQ Q w) (hn : n ≤ 1048576) (h0 : 0 ≤ k) (h1 : k ≤ 4611686018427387904 + 1099513724928) :
    Calls Try.prog 89 #[.slice a n c, .int .i64 k] w (MarkX (fun w' => Ints Q .i64 w' a n (from_ .i64 k)) Q (k + n) w) := by
  have HS : Hid (Ints Q .i64 w a n S) := hS
  have HF : Hid (SoftQ Q w) := hf
  clear hS hf
  go_enter Try.func89, Try.ntmps89
  go_wp2
  go_loopw [1, 5] (fun kv i wr => mxI Q .i64 w a n k kv i wr) (fun kv i _ => n - (intOf i).toNat)
  case atStart => exact ⟨0, Nat.zero_le _, by simp, rfl, Wrote.refl _ _, .inl rfl⟩
  case round =>
    obtain ⟨m, hm, rfl, rfl, hw, hI⟩ := hrel
    by_cases hlt : m < n
    · obtain ⟨S', hS'⟩ := HS.out.wrote hw
      rcases hS' with h0 | ⟨b, off, rfl, hq, hS'⟩
      · omega
      have hc := hS' m hlt
      have hfz := (HF.out.on hw) b (off + m) hq
      have HW : Hid (Wrote Q w (wr.setCell ⟨b, off + m, none⟩ (.int .i64 (k + m)))) := hw.trans (Wrote.setInt hq hc (k + m))
      have HI : Hid (Ints Q .i64 (wr.setCell ⟨b, off + m, none⟩ (.int .i64 (k + m))) (some ⟨b, off, none⟩) (m + 1) (from_ .i64 k)) := by
        have h := mx_snoc hI hq hc
        rw [wrap_i64 (by omega) (by omega)] at h
        exact h
      clear hw hS' hI
      go_wp2
      go_roundw
      case rel => exact ⟨m + 1, by omega, by congr 1; omega, by go_num, HW.out, HI.out⟩
      case measure => simp [intOf]; omega
    · obtain rfl : m = n := by omega
      go_wp2
      go_ret
      exact ⟨rfl, hI, hw⟩

set_option maxHeartbeats 1000000 in
theorem markByteS_exact (Q : Nat → Prop) (a : Option Addr) (n c : Nat) (S : Nat → Int) (k : Int) (w : World) (hS : Ints Q .u8 w a n S) (hf : SoftQ Q w) (hn : n ≤ 1048576) (h0 : 0 ≤ k) (h1 : k ≤ 4611686018427387904) :
    Calls Try.prog 23 #[.slice a n c, .int .i64 k] w (MarkX (fun w' => Ints Q .u8 w' a n (from_ .u8 k)) Q (k + n) w) := by
  have HS : Hid (Ints Q .u8 w a n S) := hS
  have HF : Hid (SoftQ Q w) := hf
  clear hS hf
  go_enter Try.func23, Try.ntmps23
  go_wp2
  go_loopw [1, 5] (fun kv i wr => mxI Q .u8 w a n k kv i wr) (fun kv i _ => n - (intOf i).toNat)
  case atStart => exact ⟨0, Nat.zero_le _, by simp, rfl, Wrote.refl _ _, .inl rfl⟩
  case round =>
    obtain ⟨m, hm, rfl, rfl, hw, hI⟩ := hrel
    by_cases hlt : m < n
    · obtain ⟨S', hS'⟩ := HS.out.wrote hw
      rcases hS' with h0 | ⟨b, off, rfl, hq, hS'⟩
      · omega
      have hc := hS' m hlt
      have hfz := (HF.out.on hw) b (off + m) hq
      obtain ⟨v8, e8⟩ : ∃ v8, IntKind.u8.wrap (k + m) = v8 := ⟨_, rfl⟩
      have HW : Hid (Wrote Q w (wr.setCell ⟨b, off + m, none⟩ (.int .u8 v8))) := hw.trans (Wrote.setInt hq hc v8)
      have HI : Hid (Ints Q .u8 (wr.setCell ⟨b, off + m, none⟩ (.int .u8 v8)) (some ⟨b, off, none⟩) (m + 1) (from_ .u8 k)) := by
        have h := mx_snoc hI hq hc
        rw [e8] at h
        exact h
      clear hw hS' hI
      go_wp2
      go_roundw
      case rel => exact ⟨m + 1, by omega, by congr 1; omega, by go_num, HW.out, HI.out⟩
      case measure => simp [intOf]; omega
    · obtain rfl : m = n := by omega
      go_wp2
      go_ret
      exact ⟨rfl, hI, hw⟩

end Go.Proofs.Ytjndcajblpgjmaa
