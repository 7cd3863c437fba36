/-
  Walks: what is held, number by number.
-/
import Derived.Test.YtjndcajblpgjmaaMarkR
namespace Go.Proofs.Ytjndcajblpgjmaa
open Go.RowKit
open M (OpD NodeD Gr)
set_option linter.unusedVariables false
set_option linter.unusedSimpArgs false

def hoI (w : World) (n : Nat) (f : Nat → Int) (kv i : Value) (wr : World) : Prop :=
  ∃ m : Nat, m ≤ n ∧ kv = .int .i64 (f m) ∧ i = .int .i64 (m : Int) ∧ wr = w
def HeldIs (k : Int) (w : World) (e : Ending) (w' : World) : Prop := e = .returned (.int .i64 k) ∧ w' = w

set_option maxHeartbeats 1000000 in
theorem heldIntS_any (Q : Nat → Prop) (a : Option Addr) (n c : Nat) (k : Int) (w : World) (hS : Ints Q .i64 w a n (from_ .i64 k)) (hn : n ≤ 1048576) (h0 : 0 ≤ k) (h1 : k ≤ 4611686018427387904 + 1099513724928) :
    Calls Try.prog 90 #[.slice a n c, .int .i64 k] w (HeldIs (k + n) w) := by
  have HS : Hid (Ints Q .i64 w a n (from_ .i64 k)) := hS
  clear hS
  go_enter Try.func90, Try.ntmps90
  go_wp2
  go_loopw [1, 5] (fun kv i wr => hoI w n (fun m => k + m) kv i wr) (fun kv i _ => n - (intOf i).toNat)
  case atStart => exact ⟨0, Nat.zero_le _, by simp, rfl, rfl⟩
  case round =>
    obtain ⟨m, hm, rfl, rfl, hw⟩ := hrel
    subst wr
    by_cases hlt : m < n
    · have hS' := HS.out
      rcases hS' with h0 | ⟨b, off, rfl, hq, hS'⟩
      · omega
      have hc := hS' m hlt
      have hv : from_ .i64 k m = k + m := wrap_i64 (by omega) (by omega)
      rw [hv] at hc
      clear hS' hv
      go_wp2
      go_roundw
      case rel => exact ⟨m + 1, by omega, by congr 1; show _ = k + ((m + 1 : Nat) : Int); omega, by go_num, rfl⟩
      case measure => simp [intOf]; omega
    · obtain rfl : m = n := by omega
      go_wp2
      go_ret
      exact ⟨rfl, rfl⟩

set_option maxHeartbeats 1000000 in
theorem heldByteS_any (Q : Nat → Prop) (a : Option Addr) (n c : Nat) (k : Int) (w : World) (hS : Ints Q .u8 w a n (from_ .u8 k)) (hn : n ≤ 1048576) (h0 : 0 ≤ k) (h1 : k ≤ 4611686018427387904) :
    Calls Try.prog 24 #[.slice a n c, .int .i64 k] w (HeldIs (k + n) w) := by
  have HS : Hid (Ints Q .u8 w a n (from_ .u8 k)) := hS
  clear hS
  go_enter Try.func24, Try.ntmps24
  go_wp2
  go_loopw [1, 5] (fun kv i wr => hoI w n (fun m => k + m) kv i wr) (fun kv i _ => n - (intOf i).toNat)
  case atStart => exact ⟨0, Nat.zero_le _, by simp, rfl, rfl⟩
  case round =>
    obtain ⟨m, hm, rfl, rfl, hw⟩ := hrel
    subst wr
    by_cases hlt : m < n
    · have hS' := HS.out
      rcases hS' with h0 | ⟨b, off, rfl, hq, hS'⟩
      · omega
      have hc := hS' m hlt
      obtain ⟨v8, e8⟩ : ∃ v8, IntKind.u8.wrap (k + m) = v8 := ⟨_, rfl⟩
      have hv : from_ .u8 k m = v8 := e8
      rw [hv] at hc
      clear hS' hv
      go_wp2
      go_roundw
      case rel => exact ⟨m + 1, by omega, by congr 1; show _ = k + ((m + 1 : Nat) : Int); omega, by go_num, rfl⟩
      case measure => simp [intOf]; omega
    · obtain rfl : m = n := by omega
      go_wp2
      go_ret
      exact ⟨rfl, rfl⟩

set_option maxHeartbeats 2000000 in
theorem heldOpS_any (Q : Nat → Prop) (a : Option Addr) (n c : Nat) (B : Nat → OpD) (k : Int) (w : World) (hB : OpsA Q w a n (mkB k B)) (hs : SmallB n B) (h0 : 0 ≤ k) (h1 : k ≤ 4611686018427387904) :
    Calls Try.prog 131 #[.slice a n c, .int .i64 k] w (HeldIs (k + cnt B n) w) := by
  have HB : Hid (OpsA Q w a n (mkB k B)) := hB
  have HC : Hid (∀ m, m ≤ n → cnt B m ≤ m * 1048578) := cnt_le B n hs.2
  have HSL : Hid (∀ i, i < n → (B i).sl ≤ 1048576) := hs.2
  have hn := hs.1
  clear hB hs
  go_enter Try.func131, Try.ntmps131
  go_wp2
  go_loopw [1, 5] (fun kv i wr => hoI w n (fun m => k + cnt B m) kv i wr) (fun kv i _ => n - (intOf i).toNat)
  case atStart => exact ⟨0, Nat.zero_le _, by simp [cnt], rfl, rfl⟩
  case round =>
    obtain ⟨m, hm, rfl, rfl, hw⟩ := hrel
    subst wr
    by_cases hlt : m < n
    · have hB' := HB.out
      rcases hB' with h0 | ⟨b, off, rfl, hq, hB'⟩
      · omega
      obtain ⟨c0, ⟨sa, sc, c1, hs1⟩, c2⟩ := hB' m hlt
      have hsl := HSL.out m hlt
      have hcm := HC.out m hm
      have hlt' : (m : Int) < (n : Int) := by omega
      have d0 : w.cell? ⟨b, off + m * 3, none⟩ = some (.int .i64 (k + cnt B m)) := c0
      have d1 : w.cell? ⟨b, off + m * 3 + 1, none⟩ = some (.slice sa (B m).sl sc) := c1
      have d2 : w.cell? ⟨b, off + m * 3 + 2, none⟩ = some (.int .i64 (k + cnt B m + 1 + (B m).sl)) := c2
      have HI : Hid (Ints Q .i64 w sa (B m).sl (from_ .i64 (k + cnt B m + 1))) := hs1
      have rb0 : 0 ≤ k + cnt B m + 1 := by omega
      have rb1 : k + cnt B m + 1 ≤ 4611686018427387904 + 1099513724928 := by omega
      have nneg : ¬ (k + (cnt B m : Int) + 1 + ((B m).sl : Int) < 0) := by omega
      clear hB' hs1 c0 c1 c2
      go_wp2_with (go_at_call 90; refine (heldIntS_any Q sa (B m).sl sc (k + cnt B m + 1) _ HI.out hsl rb0 rb1).mono ?_; rintro e W ⟨rfl, hW⟩; subst W)
      go_roundw
      case rel => exact ⟨m + 1, by omega, by congr 1; show _ = k + (cnt B (m + 1) : Int); rw [cnt]; omega, by go_num, rfl⟩
      case measure => simp [intOf]; omega
    · obtain rfl : m = n := by omega
      go_wp2
      go_ret
      exact ⟨rfl, rfl⟩

set_option maxHeartbeats 2000000 in
theorem heldRuleS_any (Q : Nat → Prop) (a : Option Addr) (n c : Nat) (R : Nat → NodeD) (k : Int) (w : World) (hR : RulesA Q w a n (mkR k R)) (hs : ∀ i, i < n → SmallM (R i)) (hn : n ≤ 1048576) (h0 : 0 ≤ k) (h1 : k ≤ 4) :
    Calls Try.prog 72 #[.slice a n c, .int .i64 k] w (HeldIs (k + cntR R n) w) := by
  have HR : Hid (RulesA Q w a n (mkR k R)) := hR
  have HC : Hid (∀ m, m ≤ n → cntR R m ≤ m * 1099514773504) := cntR_le R n hs
  have HS : Hid (∀ i, i < n → SmallM (R i)) := hs
  clear hR hs
  go_enter Try.func72, Try.ntmps72
  go_wp2
  go_loopw [1, 5] (fun kv i wr => hoI w n (fun m => k + cntR R m) kv i wr) (fun kv i _ => n - (intOf i).toNat)
  case atStart => exact ⟨0, Nat.zero_le _, by simp [cntR], rfl, rfl⟩
  case round =>
    obtain ⟨m, hm, rfl, rfl, hw⟩ := hrel
    subst wr
    by_cases hlt : m < n
    · have hR' := HR.out
      rcases hR' with h0 | ⟨b, off, rfl, hq, hR'⟩
      · omega
      obtain ⟨⟨na, nc, c0, hs1⟩, ⟨ba, bc, c1, hs2⟩⟩ := hR' m hlt
      have HSM : Hid (SmallM (R m)) := HS.out m hlt
      have hnl := HSM.out.name
      have hcm := HC.out m hm
      have hcb : Hid (cnt (R m).body (R m).bl ≤ (R m).bl * 1048578) := cnt_le (R m).body (R m).bl HSM.out.body.2 (R m).bl (Nat.le_refl _)
      have hlt' : (m : Int) < (n : Int) := by omega
      have d0 : w.cell? ⟨b, off + m * 2, none⟩ = some (.slice na (R m).nl nc) := c0
      have d1 : w.cell? ⟨b, off + m * 2 + 1, none⟩ = some (.slice ba (R m).bl bc) := c1
      have HI : Hid (Ints Q .u8 w na (R m).nl (from_ .u8 (k + cntR R m))) := hs1
      have HO : Hid (OpsA Q w ba (R m).bl (mkB (k + cntR R m + (R m).nl) (R m).body)) := hs2
      have rb0 : 0 ≤ k + cntR R m := by omega
      have rb1 : k + cntR R m ≤ 4611686018427387904 := by omega
      have rb2 : 0 ≤ k + cntR R m + (R m).nl := by omega
      have rb3 : k + cntR R m + (R m).nl ≤ 4611686018427387904 := by omega
      have n1 : ¬ (k + (cntR R m : Int) + ((R m).nl : Int) < 0) := by omega
      have n2 : ¬ (k + (cntR R m : Int) + ((R m).nl : Int) + (cnt (R m).body (R m).bl : Int) < 0) := by omega
      clear hR' hs1 hs2 c0 c1
      go_wp2_with (first | (go_at_call 24; refine (heldByteS_any Q na (R m).nl nc (k + cntR R m) _ HI.out hnl rb0 rb1).mono ?_; rintro e W ⟨rfl, hW⟩; subst W) | (go_at_call 131; refine (heldOpS_any Q ba (R m).bl bc (R m).body (k + cntR R m + (R m).nl) _ HO.out HSM.out.body rb2 rb3).mono ?_; rintro e W ⟨rfl, hW⟩; subst W))
      go_roundw
      case rel => exact ⟨m + 1, by omega, by congr 1; show _ = k + (cntR R (m + 1) : Int); rw [cntR]; omega, by go_num, rfl⟩
      case measure => simp [intOf]; omega
    · obtain rfl : m = n := by omega
      go_wp2
      go_ret
      exact ⟨rfl, rfl⟩

set_option maxHeartbeats 1000000 in
theorem heldLabelS_none (a : Option Addr) (c : Nat) (k : Int) (w : World) : Calls Try.prog 73 #[.slice a 0 c, .int .i64 k] w (HeldIs k w) := by
  go_enter Try.func73, Try.ntmps73
  go_wp2
  go_loopw [1, 5] (fun kv i wr => kv = .int .i64 k ∧ i = .int .i64 0 ∧ wr = w) (fun _ _ _ => 0)
  case atStart => exact ⟨rfl, rfl, rfl⟩
  case round =>
    obtain ⟨rfl, rfl, hw⟩ := hrel
    subst hw
    go_wp2
    go_ret
    exact ⟨rfl, rfl⟩
set_option maxHeartbeats 1000000 in
theorem markLabelS_none (a : Option Addr) (c : Nat) (k : Int) (w : World) : Calls Try.prog 68 #[.slice a 0 c, .int .i64 k] w (HeldIs k w) := by
  go_enter Try.func68, Try.ntmps68
  go_wp2
  go_loopw [1, 5] (fun kv i wr => kv = .int .i64 k ∧ i = .int .i64 0 ∧ wr = w) (fun _ _ _ => 0)
  case atStart => exact ⟨rfl, rfl, rfl⟩
  case round =>
    obtain ⟨rfl, rfl, hw⟩ := hrel
    subst hw
    go_wp2
    go_ret
    exact ⟨rfl, rfl⟩

end Go.Proofs.Ytjndcajblpgjmaa
