/-
  Walks: two that are the same are told to be the same.
-/
import Derived.Test.YtjndcajblpgjmaaCopyG
import Derived.Test.YtjndcajblpgjmaaSValid
namespace Go.Proofs.Ytjndcajblpgjmaa
open Go.RowKit
open M (OpD NodeD Gr)
set_option linter.unusedVariables false

theorem nne (n : Nat) : ((n : Int) != n) = false := by simp
theorem ine (n : Int) : (n != n) = false := by simp

set_option maxHeartbeats 1000000 in
theorem eqIntS_same (Q Q' : Nat → Prop) (a a' : Option Addr) (n c c' : Nat) (S : Nat → Int) (w : World) (h1 : Ints Q .i64 w a n S) (h2 : Ints Q' .i64 w a' n S) (hn : n ≤ 1048576) :
    Calls Try.prog 100 #[.slice a n c, .slice a' n c'] w (SaysB True w) := by
  have ht := nne n
  go_enter Try.func100, Try.ntmps100
  go_wp2
  go_loopw [5] (fun i wr => ∃ k : Nat, k ≤ n ∧ i = .int .i64 k ∧ ∃ j, wr = w.drewN j) (fun i _ => n - (intOf i).toNat)
  case atStart => exact ⟨0, Nat.zero_le _, rfl, 0, rfl⟩
  case round =>
    obtain ⟨k, hk, rfl, j, rfl⟩ := hrel
    by_cases hlt : k < n
    · rcases h1 with h0 | ⟨b, off, rfl, hq, h1⟩
      · omega
      rcases h2 with h0 | ⟨b', off', rfl, hq', h2⟩
      · omega
      have hc1 := h1 k hlt
      have hc2 := h2 k hlt
      have hne := ine (S k)
      have hlt' : (k : Int) < (n : Int) := by omega
      go_wp2_with fail
      go_quiet (fail)
      go_wp2
      go_roundw
      case rel => exact ⟨k + 1, by omega, by go_num, _, rfl⟩
      case measure => simp [intOf]; omega
    · obtain rfl : k = n := by omega
      go_wp2
      go_ret
      exact ⟨⟨true, rfl, iffT trivial⟩, below_drewN (Below.refl _ _) _⟩

set_option maxHeartbeats 1000000 in
theorem eqByteS_same (Q Q' : Nat → Prop) (a a' : Option Addr) (n c c' : Nat) (S : Nat → Int) (w : World) (h1 : Ints Q .u8 w a n S) (h2 : Ints Q' .u8 w a' n S) (hn : n ≤ 1048576) :
    Calls Try.prog 14 #[.slice a n c, .slice a' n c'] w (SaysB True w) := by
  have ht := nne n
  go_enter Try.func14, Try.ntmps14
  go_wp2
  go_loopw [5] (fun i wr => ∃ k : Nat, k ≤ n ∧ i = .int .i64 k ∧ ∃ j, wr = w.drewN j) (fun i _ => n - (intOf i).toNat)
  case atStart => exact ⟨0, Nat.zero_le _, rfl, 0, rfl⟩
  case round =>
    obtain ⟨k, hk, rfl, j, rfl⟩ := hrel
    by_cases hlt : k < n
    · rcases h1 with h0 | ⟨b, off, rfl, hq, h1⟩
      · omega
      rcases h2 with h0 | ⟨b', off', rfl, hq', h2⟩
      · omega
      have hc1 := h1 k hlt
      have hc2 := h2 k hlt
      have hne := ine (S k)
      have hlt' : (k : Int) < (n : Int) := by omega
      go_wp2_with fail
      go_quiet (fail)
      go_wp2
      go_roundw
      case rel => exact ⟨k + 1, by omega, by go_num, _, rfl⟩
      case measure => simp [intOf]; omega
    · obtain rfl : k = n := by omega
      go_wp2
      go_ret
      exact ⟨⟨true, rfl, iffT trivial⟩, below_drewN (Below.refl _ _) _⟩

set_option maxHeartbeats 1000000 in
theorem eqOp_same (Q Q' : Nat → Prop) (a a' : Option Addr) (c c' : Nat) (d : OpD) (w : World) (h1 : Ints Q .i64 w a d.sl d.set) (h2 : Ints Q' .i64 w a' d.sl d.set) (hn : d.sl ≤ 1048576) :
    Calls Try.prog 202 #[.agg #[.int .i64 d.kind, .slice a d.sl c, .int .i64 d.arg], .agg #[.int .i64 d.kind, .slice a' d.sl c', .int .i64 d.arg]] w (SaysB True w) := by
  have t1 := ine d.kind
  have t2 := ine d.arg
  have H1 : Hid (∀ o p, Ints Q .i64 ((w.alloc o).alloc p) a d.sl d.set) := fun o p => h1.later (bel2 w o p)
  have H2 : Hid (∀ o p, Ints Q' .i64 ((w.alloc o).alloc p) a' d.sl d.set) := fun o p => h2.later (bel2 w o p)
  clear h1 h2
  go_enter Try.func202, Try.ntmps202
  go_wp2_with (go_at_call 100; refine (eqIntS_same Q Q' a a' d.sl c c' d.set _ (H1.out _ _) (H2.out _ _) hn).mono ?_; rintro e W ⟨⟨r, rfl, hr⟩, hb⟩; obtain rfl : r = true := hr.2 trivial; have x0 := cell_on (a := ⟨w.heap.size, 2, none⟩) (v := .int .i64 d.arg) (cellOn _ (cN w.heap.size rfl rfl)) hb; have x1 := cell_on (a := ⟨w.heap.size + 1, 2, none⟩) (v := .int .i64 d.arg) (cN (w.heap.size + 1) (by simp) rfl) hb; have HB : Hid _ := hb; clear hr hb)
  go_ret
  exact ⟨⟨true, rfl, iffT trivial⟩, bel_tr (bel2 w _ _) HB.out⟩

set_option maxHeartbeats 2000000 in
theorem eqOpS_same (Q Q' : Nat → Prop) (a a' : Option Addr) (n c c' : Nat) (R : Nat → OpD) (w : World) (h1 : OpsA Q w a n R) (h2 : OpsA Q' w a' n R) (hn : n ≤ 1048576) (hs : ∀ i, i < n → (R i).sl ≤ 1048576) :
    Calls Try.prog 173 #[.slice a n c, .slice a' n c'] w (SaysB True w) := by
  have ht := nne n
  have H1 : Hid (OpsA Q w a n R) := h1
  have H2 : Hid (OpsA Q' w a' n R) := h2
  have HSL : Hid (∀ i, i < n → (R i).sl ≤ 1048576) := hs
  clear h1 h2 hs
  go_enter Try.func173, Try.ntmps173
  go_wp2
  go_loopw [5] (fun i wr => ∃ k : Nat, k ≤ n ∧ i = .int .i64 k ∧ Below w.heap.size w wr) (fun i _ => n - (intOf i).toNat)
  case atStart => exact ⟨0, Nat.zero_le _, rfl, Below.refl _ _⟩
  case round =>
    obtain ⟨k, hk, rfl, hbel⟩ := hrel
    by_cases hlt : k < n
    · have h1 := H1.out.later hbel
      rcases h1 with h0 | ⟨b, off, rfl, hq, h1⟩
      · omega
      have h2 := H2.out.later hbel
      rcases h2 with h0 | ⟨b', off', rfl, hq', h2⟩
      · omega
      obtain ⟨c0, ⟨sa, sc, c1, hs1⟩, c2⟩ := h1 k hlt
      obtain ⟨e0, ⟨sa', sc', e1, hs2⟩, e2⟩ := h2 k hlt
      have HS1 : Hid (Ints Q .i64 wr sa (R k).sl (R k).set) := hs1
      have HS2 : Hid (Ints Q' .i64 wr sa' (R k).sl (R k).set) := hs2
      have hlt' : (k : Int) < (n : Int) := by omega
      have HBE : Hid (Below w.heap.size w wr) := hbel
      obtain ⟨ι, hne, F, hF, hF'⟩ := family wr
      have f0 : ∀ n, (F n).cell? ⟨b, off + k * 3, none⟩ = some (.int .i64 (R k).kind) := fun n => cell_on c0 (hF n)
      have g0 : ∀ n, (F n).cell? ⟨b', off' + k * 3, none⟩ = some (.int .i64 (R k).kind) := fun n => cell_on e0 (hF n)
      have f1 : ∀ n, (F n).cell? ⟨b, off + k * 3 + 1, none⟩ = some (.slice sa (R k).sl sc) := fun n => cell_on c1 (hF n)
      have g1 : ∀ n, (F n).cell? ⟨b', off' + k * 3 + 1, none⟩ = some (.slice sa' (R k).sl sc') := fun n => cell_on e1 (hF n)
      have f2 : ∀ n, (F n).cell? ⟨b, off + k * 3 + 2, none⟩ = some (.int .i64 (R k).arg) := fun n => cell_on c2 (hF n)
      have g2 : ∀ n, (F n).cell? ⟨b', off' + k * 3 + 2, none⟩ = some (.int .i64 (R k).arg) := fun n => cell_on e2 (hF n)
      have HC : Hid (∃ n, wr.drew = F n) := hF' _ (Below.refl _ wr).drew
      have HF : Hid (∀ n, Below wr.heap.size wr (F n)) := hF
      have HF' : Hid (∀ W, Below wr.heap.size wr W → ∃ n, W = F n) := hF'
      clear hF hF' h1 h2 hbel hs1 hs2
      go_wp2_with fail
      refine region_family F (by kernel_rfl) (by kernel_rfl) HC.out ?_
      repeat (go_big_quiet_step (first | (go_at_call 202; exact says_in (HF.out _) HF'.out (iffT trivial) (eqOp_same Q Q' sa sa' sc sc' (R k) _ (HS1.out.later (HF.out _)) (HS2.out.later (HF.out _)) (HSL.out k hlt)))))
      refine wpQuiet_nil ?_
      rintro _ ⟨nq, rfl⟩
      go_wp2
      go_roundw
      case rel => exact ⟨k + 1, by omega, by go_num, bel_tr HBE.out (HF.out nq)⟩
      case measure => simp [intOf]; omega
    · obtain rfl : k = n := by omega
      go_wp2
      go_ret
      exact ⟨⟨true, rfl, iffT trivial⟩, hbel⟩

set_option maxHeartbeats 2000000 in
theorem eqRule_same (Q Q' : Nat → Prop) (na na' ba ba' : Option Addr) (nc nc' bc bc' : Nat) (d : NodeD) (w : World) (h1 : Ints Q .u8 w na d.nl d.name) (h2 : Ints Q' .u8 w na' d.nl d.name) (h3 : OpsA Q w ba d.bl d.body) (h4 : OpsA Q' w ba' d.bl d.body) (hs : SmallN d) :
    Calls Try.prog 120 #[.agg #[.slice na d.nl nc, .slice ba d.bl bc], .agg #[.slice na' d.nl nc', .slice ba' d.bl bc']] w (SaysB True w) := by
  have H1 : Hid (∀ o p, Ints Q .u8 ((w.alloc o).alloc p) na d.nl d.name) := fun o p => h1.later (bel2 w o p)
  have H2 : Hid (∀ o p, Ints Q' .u8 ((w.alloc o).alloc p) na' d.nl d.name) := fun o p => h2.later (bel2 w o p)
  have H3 : Hid (OpsA Q w ba d.bl d.body) := h3
  have H4 : Hid (OpsA Q' w ba' d.bl d.body) := h4
  have HS : Hid (SmallN d) := hs
  clear h1 h2 h3 h4 hs
  go_enter Try.func120, Try.ntmps120
  go_wp2_with (first | (go_at_call 14; refine (eqByteS_same Q Q' na na' d.nl nc nc' d.name _ (H1.out _ _) (H2.out _ _) HS.out.name).mono ?_; rintro e W ⟨⟨r, rfl, hr⟩, hb⟩; obtain rfl : r = true := hr.2 trivial; have x0 := cell_on (a := ⟨w.heap.size, 1, none⟩) (v := .slice ba d.bl bc) (cellOn _ (cN w.heap.size rfl rfl)) hb; have x1 := cell_on (a := ⟨w.heap.size + 1, 1, none⟩) (v := .slice ba' d.bl bc') (cN (w.heap.size + 1) (by simp) rfl) hb; have HB : Hid _ := hb; clear hr hb) | (go_at_call 173; refine (eqOpS_same Q Q' ba ba' d.bl bc bc' d.body _ (H3.out.later (bel_tr (bel2 w _ _) HB.out)) (H4.out.later (bel_tr (bel2 w _ _) HB.out)) HS.out.body.1 HS.out.body.2).mono ?_; rintro e W2 ⟨⟨r, rfl, hr⟩, hb⟩; obtain rfl : r = true := hr.2 trivial; have HB2 : Hid _ := hb; clear hr hb))
  go_ret
  exact ⟨⟨true, rfl, iffT trivial⟩, bel_tr (bel2 w _ _) (bel_tr HB.out HB2.out)⟩

set_option maxHeartbeats 2000000 in
theorem eqLabel_same (Q Q' : Nat → Prop) (na na' ba ba' : Option Addr) (nc nc' bc bc' : Nat) (d : NodeD) (w : World) (h1 : Ints Q .u8 w na d.nl d.name) (h2 : Ints Q' .u8 w na' d.nl d.name) (h3 : OpsA Q w ba d.bl d.body) (h4 : OpsA Q' w ba' d.bl d.body) (hs : SmallN d) :
    Calls Try.prog 121 #[.agg #[.slice na d.nl nc, .bool d.has, .slice ba d.bl bc], .agg #[.slice na' d.nl nc', .bool d.has, .slice ba' d.bl bc']] w (SaysB True w) := by
  have tb : (d.has != d.has) = false := by simp
  have H1 : Hid (∀ o p, Ints Q .u8 ((w.alloc o).alloc p) na d.nl d.name) := fun o p => h1.later (bel2 w o p)
  have H2 : Hid (∀ o p, Ints Q' .u8 ((w.alloc o).alloc p) na' d.nl d.name) := fun o p => h2.later (bel2 w o p)
  have H3 : Hid (OpsA Q w ba d.bl d.body) := h3
  have H4 : Hid (OpsA Q' w ba' d.bl d.body) := h4
  have HS : Hid (SmallN d) := hs
  clear h1 h2 h3 h4 hs
  go_enter Try.func121, Try.ntmps121
  go_wp2_with (first | (go_at_call 14; refine (eqByteS_same Q Q' na na' d.nl nc nc' d.name _ (H1.out _ _) (H2.out _ _) HS.out.name).mono ?_; rintro e W ⟨⟨r, rfl, hr⟩, hb⟩; obtain rfl : r = true := hr.2 trivial; have x0 := cell_on (a := ⟨w.heap.size, 2, none⟩) (v := .slice ba d.bl bc) (cellOn _ (cN w.heap.size rfl rfl)) hb; have x1 := cell_on (a := ⟨w.heap.size + 1, 2, none⟩) (v := .slice ba' d.bl bc') (cN (w.heap.size + 1) (by simp) rfl) hb; have x2 := cell_on (a := ⟨w.heap.size, 1, none⟩) (v := .bool d.has) (cellOn _ (cN w.heap.size rfl rfl)) hb; have x3 := cell_on (a := ⟨w.heap.size + 1, 1, none⟩) (v := .bool d.has) (cN (w.heap.size + 1) (by simp) rfl) hb; have HB : Hid _ := hb; clear hr hb) | (go_at_call 173; refine (eqOpS_same Q Q' ba ba' d.bl bc bc' d.body _ (H3.out.later (bel_tr (bel2 w _ _) HB.out)) (H4.out.later (bel_tr (bel2 w _ _) HB.out)) HS.out.body.1 HS.out.body.2).mono ?_; rintro e W2 ⟨⟨r, rfl, hr⟩, hb⟩; obtain rfl : r = true := hr.2 trivial; have HB2 : Hid _ := hb; clear hr hb))
  go_ret
  exact ⟨⟨true, rfl, iffT trivial⟩, bel_tr (bel2 w _ _) (bel_tr HB.out HB2.out)⟩

set_option maxHeartbeats 2000000 in
theorem eqRuleS_same (Q Q' : Nat → Prop) (a a' : Option Addr) (n c c' : Nat) (R : Nat → NodeD) (w : World) (h1 : RulesA Q w a n R) (h2 : RulesA Q' w a' n R) (hn : n ≤ 1048576) (hs : ∀ i, i < n → SmallN (R i)) :
    Calls Try.prog 62 #[.slice a n c, .slice a' n c'] w (SaysB True w) := by
  have ht := nne n
  have H1 : Hid (RulesA Q w a n R) := h1
  have H2 : Hid (RulesA Q' w a' n R) := h2
  have HSL : Hid (∀ i, i < n → SmallN (R i)) := hs
  clear h1 h2 hs
  go_enter Try.func62, Try.ntmps62
  go_wp2
  go_loopw [5] (fun i wr => ∃ k : Nat, k ≤ n ∧ i = .int .i64 k ∧ Below w.heap.size w wr) (fun i _ => n - (intOf i).toNat)
  case atStart => exact ⟨0, Nat.zero_le _, rfl, Below.refl _ _⟩
  case round =>
    obtain ⟨k, hk, rfl, hbel⟩ := hrel
    by_cases hlt : k < n
    · have h1 := H1.out.later hbel
      rcases h1 with h0 | ⟨b, off, rfl, hq, h1⟩
      · omega
      have h2 := H2.out.later hbel
      rcases h2 with h0 | ⟨b', off', rfl, hq', h2⟩
      · omega
      obtain ⟨⟨na, nc, c0, hs1⟩, ⟨ba, bc, c1, hb1⟩⟩ := h1 k hlt
      obtain ⟨⟨na', nc', e0, hs2⟩, ⟨ba', bc', e1, hb2⟩⟩ := h2 k hlt
      have HS1 : Hid (Ints Q .u8 wr na (R k).nl (R k).name) := hs1
      have HS2 : Hid (Ints Q' .u8 wr na' (R k).nl (R k).name) := hs2
      have HB1 : Hid (OpsA Q wr ba (R k).bl (R k).body) := hb1
      have HB2 : Hid (OpsA Q' wr ba' (R k).bl (R k).body) := hb2
      have hlt' : (k : Int) < (n : Int) := by omega
      have HBE : Hid (Below w.heap.size w wr) := hbel
      obtain ⟨ι, hne, F, hF, hF'⟩ := family wr
      have f0 : ∀ n, (F n).cell? ⟨b, off + k * 2, none⟩ = some (.slice na (R k).nl nc) := fun n => cell_on c0 (hF n)
      have g0 : ∀ n, (F n).cell? ⟨b', off' + k * 2, none⟩ = some (.slice na' (R k).nl nc') := fun n => cell_on e0 (hF n)
      have f1 : ∀ n, (F n).cell? ⟨b, off + k * 2 + 1, none⟩ = some (.slice ba (R k).bl bc) := fun n => cell_on c1 (hF n)
      have g1 : ∀ n, (F n).cell? ⟨b', off' + k * 2 + 1, none⟩ = some (.slice ba' (R k).bl bc') := fun n => cell_on e1 (hF n)
      have HC : Hid (∃ n, wr.drew = F n) := hF' _ (Below.refl _ wr).drew
      have HF : Hid (∀ n, Below wr.heap.size wr (F n)) := hF
      have HF' : Hid (∀ W, Below wr.heap.size wr W → ∃ n, W = F n) := hF'
      clear hF hF' h1 h2 hbel hs1 hs2 hb1 hb2
      go_wp2_with fail
      refine region_family F (by kernel_rfl) (by kernel_rfl) HC.out ?_
      repeat (go_big_quiet_step (first | (go_at_call 120; exact says_in (HF.out _) HF'.out (iffT trivial) (eqRule_same Q Q' na na' ba ba' nc nc' bc bc' (R k) _ (HS1.out.later (HF.out _)) (HS2.out.later (HF.out _)) (HB1.out.later (HF.out _)) (HB2.out.later (HF.out _)) (HSL.out k hlt)))))
      refine wpQuiet_nil ?_
      rintro _ ⟨nq, rfl⟩
      go_wp2
      go_roundw
      case rel => exact ⟨k + 1, by omega, by go_num, bel_tr HBE.out (HF.out nq)⟩
      case measure => simp [intOf]; omega
    · obtain rfl : k = n := by omega
      go_wp2
      go_ret
      exact ⟨⟨true, rfl, iffT trivial⟩, hbel⟩

set_option maxHeartbeats 2000000 in
theorem eqLabelS_same (Q Q' : Nat → Prop) (a a' : Option Addr) (n c c' : Nat) (R : Nat → NodeD) (w : World) (h1 : LabsA Q w a n R) (h2 : LabsA Q' w a' n R) (hn : n ≤ 1048576) (hs : ∀ i, i < n → SmallN (R i)) :
    Calls Try.prog 63 #[.slice a n c, .slice a' n c'] w (SaysB True w) := by
  have ht := nne n
  have H1 : Hid (LabsA Q w a n R) := h1
  have H2 : Hid (LabsA Q' w a' n R) := h2
  have HSL : Hid (∀ i, i < n → SmallN (R i)) := hs
  clear h1 h2 hs
  go_enter Try.func63, Try.ntmps63
  go_wp2
  go_loopw [5] (fun i wr => ∃ k : Nat, k ≤ n ∧ i = .int .i64 k ∧ Below w.heap.size w wr) (fun i _ => n - (intOf i).toNat)
  case atStart => exact ⟨0, Nat.zero_le _, rfl, Below.refl _ _⟩
  case round =>
    obtain ⟨k, hk, rfl, hbel⟩ := hrel
    by_cases hlt : k < n
    · have h1 := H1.out.later hbel
      rcases h1 with h0 | ⟨b, off, rfl, hq, h1⟩
      · omega
      have h2 := H2.out.later hbel
      rcases h2 with h0 | ⟨b', off', rfl, hq', h2⟩
      · omega
      obtain ⟨⟨na, nc, c0, hs1⟩, c1, ⟨ba, bc, c2, hb1⟩⟩ := h1 k hlt
      obtain ⟨⟨na', nc', e0, hs2⟩, e1, ⟨ba', bc', e2, hb2⟩⟩ := h2 k hlt
      have HS1 : Hid (Ints Q .u8 wr na (R k).nl (R k).name) := hs1
      have HS2 : Hid (Ints Q' .u8 wr na' (R k).nl (R k).name) := hs2
      have HB1 : Hid (OpsA Q wr ba (R k).bl (R k).body) := hb1
      have HB2 : Hid (OpsA Q' wr ba' (R k).bl (R k).body) := hb2
      have hlt' : (k : Int) < (n : Int) := by omega
      have HBE : Hid (Below w.heap.size w wr) := hbel
      obtain ⟨ι, hne, F, hF, hF'⟩ := family wr
      have f0 : ∀ n, (F n).cell? ⟨b, off + k * 3, none⟩ = some (.slice na (R k).nl nc) := fun n => cell_on c0 (hF n)
      have g0 : ∀ n, (F n).cell? ⟨b', off' + k * 3, none⟩ = some (.slice na' (R k).nl nc') := fun n => cell_on e0 (hF n)
      have f1 : ∀ n, (F n).cell? ⟨b, off + k * 3 + 1, none⟩ = some (.bool (R k).has) := fun n => cell_on c1 (hF n)
      have g1 : ∀ n, (F n).cell? ⟨b', off' + k * 3 + 1, none⟩ = some (.bool (R k).has) := fun n => cell_on e1 (hF n)
      have f2 : ∀ n, (F n).cell? ⟨b, off + k * 3 + 2, none⟩ = some (.slice ba (R k).bl bc) := fun n => cell_on c2 (hF n)
      have g2 : ∀ n, (F n).cell? ⟨b', off' + k * 3 + 2, none⟩ = some (.slice ba' (R k).bl bc') := fun n => cell_on e2 (hF n)
      have HC : Hid (∃ n, wr.drew = F n) := hF' _ (Below.refl _ wr).drew
      have HF : Hid (∀ n, Below wr.heap.size wr (F n)) := hF
      have HF' : Hid (∀ W, Below wr.heap.size wr W → ∃ n, W = F n) := hF'
      clear hF hF' h1 h2 hbel hs1 hs2 hb1 hb2
      go_wp2_with fail
      refine region_family F (by kernel_rfl) (by kernel_rfl) HC.out ?_
      repeat (go_big_quiet_step (first | (go_at_call 121; exact says_in (HF.out _) HF'.out (iffT trivial) (eqLabel_same Q Q' na na' ba ba' nc nc' bc bc' (R k) _ (HS1.out.later (HF.out _)) (HS2.out.later (HF.out _)) (HB1.out.later (HF.out _)) (HB2.out.later (HF.out _)) (HSL.out k hlt)))))
      refine wpQuiet_nil ?_
      rintro _ ⟨nq, rfl⟩
      go_wp2
      go_roundw
      case rel => exact ⟨k + 1, by omega, by go_num, bel_tr HBE.out (HF.out nq)⟩
      case measure => simp [intOf]; omega
    · obtain rfl : k = n := by omega
      go_wp2
      go_ret
      exact ⟨⟨true, rfl, iffT trivial⟩, hbel⟩

set_option maxHeartbeats 2000000 in
theorem eqGrammar_same (Q Q' : Nat → Prop) (ra ra' la la' : Option Addr) (rc rc' lc lc' : Nat) (g : Gr) (w : World) (h1 : GramA Q w ra la g) (h2 : GramA Q' w ra' la' g) (hs : SmallG g) :
    Calls Try.prog 19 #[.agg #[.slice ra g.nr rc, .slice la g.nb lc], .agg #[.slice ra' g.nr rc', .slice la' g.nb lc']] w (SaysB True w) := by
  have H1 : Hid (GramA Q w ra la g) := h1
  have H2 : Hid (GramA Q' w ra' la' g) := h2
  have HS : Hid (SmallG g) := hs
  clear h1 h2 hs
  go_enter Try.func19, Try.ntmps19
  go_wp2_with (first | (go_at_call 62; refine (eqRuleS_same Q Q' ra ra' g.nr rc rc' g.rule _ (H1.out.rules.later (bel2 w _ _)) (H2.out.rules.later (bel2 w _ _)) HS.out.nr HS.out.rule).mono ?_; rintro e W ⟨⟨r, rfl, hr⟩, hb⟩; obtain rfl : r = true := hr.2 trivial; have x0 := cell_on (a := ⟨w.heap.size, 1, none⟩) (v := .slice la g.nb lc) (cellOn _ (cN w.heap.size rfl rfl)) hb; have x1 := cell_on (a := ⟨w.heap.size + 1, 1, none⟩) (v := .slice la' g.nb lc') (cN (w.heap.size + 1) (by simp) rfl) hb; have HB : Hid _ := hb; clear hr hb) | (go_at_call 63; refine (eqLabelS_same Q Q' la la' g.nb lc lc' g.lab _ (H1.out.labs.later (bel_tr (bel2 w _ _) HB.out)) (H2.out.labs.later (bel_tr (bel2 w _ _) HB.out)) HS.out.nb HS.out.lab).mono ?_; rintro e W2 ⟨⟨r, rfl, hr⟩, hb⟩; obtain rfl : r = true := hr.2 trivial; have HB2 : Hid _ := hb; clear hr hb))
  go_ret
  exact ⟨⟨true, rfl, iffT trivial⟩, bel_tr (bel2 w _ _) (bel_tr HB.out HB2.out)⟩

end Go.Proofs.Ytjndcajblpgjmaa
