/-
  Walks: lists of truth values held against each other, marked, and looked at again.
-/
import Derived.Test.YtjpcojabdjldbaaSNuB
import Derived.Test.YtjpcojabdjldbaaIter
namespace Go.Proofs.Ytjpcojabdjldbaa
open Go.RowKit
set_option linter.unusedVariables false
set_option linter.unusedSimpArgs false

/-- A list of n truth values: its row begins a block of Q; the empty list may be nil. -/
def BoolR (Q : Nat → Prop) (w : World) (a : Option Addr) (n : Nat) (S : Nat → Bool) : Prop := n = 0 ∨ ∃ b, a = some ⟨b, 0, none⟩ ∧ Q b ∧ w.rowIs b 4 n (fun i => .bool (S i))
theorem BoolR.later {Q : Nat → Prop} {w w' : World} {a : Option Addr} {n : Nat} {S : Nat → Bool} (h : BoolR Q w a n S) (k : Below w.heap.size w w') : BoolR Q w' a n S := by
  rcases h with h | ⟨b, e, hq, h⟩
  · exact .inl h
  · exact .inr ⟨b, e, hq, h.of_block (k.block b (rowIs_lt h))⟩
theorem BoolR.stay {Q : Nat → Prop} {w w' : World} {a : Option Addr} {n : Nat} {S : Nat → Bool} (h : BoolR Q w a n S) (k : Stay Q w w') : BoolR Q w' a n S := by
  rcases h with h | ⟨b, e, hq, h⟩
  · exact .inl h
  · exact .inr ⟨b, e, hq, h.of_block (k b hq)⟩

def bloopI (w : World) (n : Nat) (i : Value) (wr : World) : Prop := ∃ k : Nat, k ≤ n ∧ i = .int .i64 (k : Int) ∧ Below w.heap.size w wr

set_option maxHeartbeats 2000000 in
theorem eqBoolS_same (Q Q' : Nat → Prop) (a a' : Option Addr) (n c c' : Nat) (S : Nat → Bool) (w : World) (h1 : BoolR Q w a n S) (h2 : BoolR Q' w a' n S) (hn : n ≤ 1048576) :
    Calls Try.prog 28 #[.slice a n c, .slice a' n c'] w (SaysB True w) := by
  have H1 : Hid (BoolR Q w a n S) := h1
  have H2 : Hid (BoolR Q' w a' n S) := h2
  clear h1 h2
  go_enter Try.func28, Try.ntmps28
  go_wp2
  go_loopw [5] (fun i wr => bloopI w n i wr) (fun i _ => n - (intOf i).toNat)
  case atStart => exact ⟨0, Nat.zero_le _, rfl, Below.refl _ _⟩
  case round =>
    obtain ⟨k, hk, rfl, hb⟩ := hrel
    have HB : Hid (Below w.heap.size w wr) := hb
    by_cases hlt : k < n
    · rcases H1.out.later hb with q | ⟨b, rfl, _, r1⟩
      · omega
      rcases H2.out.later hb with q | ⟨b', rfl, _, r2⟩
      · omega
      have c1 := r1.cell hlt
      have c2 := r2.cell hlt
      clear r1 r2 hb
      go_wp2
      go_region
      all_goals go_wp2
      all_goals go_roundw
      all_goals first
        | exact ⟨k + 1, by omega, by go_num, HB.out.drew⟩
        | (simp [intOf]; omega)
    · go_wp2
      go_ret
      exact ⟨⟨true, rfl, iffT trivial⟩, HB.out⟩

/-- The mark of the place i. -/
def mk3 (i : Nat) : Bool := decide ((1 + i) % 3 = 0)
theorem mk3_eq (i : Nat) : (((1 + i : Nat) : Int).tmod 3 == 0) = mk3 i := by
  have key : ∀ q : Nat, ((q : Int)).tmod 3 = ((q % 3 : Nat) : Int) := fun q => by simp [Int.tmod_eq_emod]
  rw [key]
  unfold mk3
  by_cases h : (1 + i) % 3 = 0
  · rw [h]; simp
  · simp [h]
    omega
theorem mk3_e (i : Nat) : ((1 + (i : Int)) % 3 == 0) = mk3 i := by
  unfold mk3
  by_cases h : (1 + i) % 3 = 0
  · have : (1 + (i : Int)) % 3 = 0 := by omega
    rw [this]; simp [h]
  · have : ¬ (1 + (i : Int)) % 3 = 0 := by omega
    rw [beq_eq_false_iff_ne.2 this]; simp [h]
theorem mk3_t (i : Nat) : ((1 + (i : Int)).tmod 3 == 0) = mk3 i := by
  have := mk3_eq i
  simpa using this
def mkH (S : Nat → Bool) (k j : Nat) : Value := if j < k then .bool (mk3 j) else .bool (S j)
theorem mkH_step {w : World} {b n k : Nat} {S : Nat → Bool} {v : Bool} (h : w.rowIs b 4 n (mkH S k)) (hv : v = mk3 k) : (w.setCell ⟨b, k, none⟩ (.bool v)).rowIs b 4 n (mkH S (k + 1)) := by
  subst hv
  refine (h.set k (.bool (mk3 k))).congr fun i _ => ?_
  unfold mkH
  by_cases e : i = k
  · subst e; simp
  · rw [if_neg e]
    by_cases e2 : i < k
    · rw [if_pos e2, if_pos (by omega)]
    · rw [if_neg e2, if_neg (by omega)]

def markI (w : World) (b n : Nat) (S : Nat → Bool) (kv i : Value) (wr : World) : Prop := ∃ k : Nat, k ≤ n ∧ i = .int .i64 (k : Int) ∧ kv = .int .i64 ((1 + k : Nat) : Int) ∧ wr.rowIs b 4 n (mkH S k) ∧ Keep (fun x => x = b) w wr

set_option maxHeartbeats 2000000 in
theorem markBoolS_any (b n c : Nat) (S : Nat → Bool) (w : World) (h : w.rowIs b 4 n (fun i => .bool (S i))) (hn : n ≤ 1048576) :
    Calls Try.prog 29 #[.slice (some ⟨b, 0, none⟩) n c, .int .i64 1] w fun e w' => e = .returned (.int .i64 ((1 + n : Nat) : Int)) ∧ w'.rowIs b 4 n (fun i => .bool (mk3 i)) ∧ Keep (fun x => x = b) w w' := by
  have H : Hid (w.rowIs b 4 n (fun i => .bool (S i))) := h
  clear h
  go_enter Try.func29, Try.ntmps29
  go_wp2
  go_loopw [1, 5] (fun kv i wr => markI w b n S kv i wr) (fun kv i _ => n - (intOf i).toNat)
  case atStart => exact ⟨0, Nat.zero_le _, rfl, rfl, H.out.congr (fun i _ => by simp [mkH]), Keep.refl _ _⟩
  case round =>
    obtain ⟨k, hk, rfl, rfl, hrow, hkp⟩ := hrel
    have HR : Hid (wr.rowIs b 4 n (mkH S k)) := hrow
    have HK : Hid (Keep (fun x => x = b) w wr) := hkp
    by_cases hlt : k < n
    · have hc := hrow.cell hlt
      have hf := hrow.frozen k
      have hm := mk3_eq k
      clear hrow hkp
      go_wp2
      go_roundw
      case rel => exact ⟨k + 1, by omega, by go_num, by go_num, mkH_step HR.out (by first | exact hm | (rw [← hm]; simp)), HK.out.trans (Keep.setCell _ _ _ rfl)⟩
      case measure => simp [intOf]; omega
    · obtain rfl : k = n := by omega
      go_wp2
      go_ret
      exact ⟨rfl, HR.out.congr (fun i hi => by simp [mkH, hi]), HK.out⟩

def heldI (w : World) (n : Nat) (kv i : Value) (wr : World) : Prop := ∃ k : Nat, k ≤ n ∧ i = .int .i64 (k : Int) ∧ kv = .int .i64 ((1 + k : Nat) : Int) ∧ wr = w

set_option maxHeartbeats 2000000 in
theorem heldBoolS_any (b n c : Nat) (w : World) (h : w.rowIs b 4 n (fun i => .bool (mk3 i))) (hn : n ≤ 1048576) :
    Calls Try.prog 30 #[.slice (some ⟨b, 0, none⟩) n c, .int .i64 1] w fun e w' => e = .returned (.int .i64 ((1 + n : Nat) : Int)) ∧ w = w' := by
  go_enter Try.func30, Try.ntmps30
  go_wp2
  go_loopw [1, 5] (fun kv i wr => heldI w n kv i wr) (fun kv i _ => n - (intOf i).toNat)
  case atStart => exact ⟨0, Nat.zero_le _, rfl, rfl, rfl⟩
  case round =>
    obtain ⟨k, hk, rfl, rfl, rfl⟩ := hrel
    by_cases hlt : k < n
    · have hc := h.cell hlt
      have hm := mk3_e k
      have hm2 := mk3_t k
      go_wp2
      go_roundw
      case rel => exact ⟨k + 1, by omega, by go_num, by go_num, rfl⟩
      case measure => simp [intOf]; omega
    · obtain rfl : k = n := by omega
      go_wp2
      go_ret
      exact ⟨rfl, rfl⟩

def nilI (w : World) (kv i : Value) (wr : World) : Prop := kv = .int .i64 1 ∧ i = .int .i64 0 ∧ wr = w
set_option maxHeartbeats 1000000 in
theorem markBoolS_nil (w : World) : Calls Try.prog 29 #[.slice none 0 0, .int .i64 1] w fun e w' => e = .returned (.int .i64 1) ∧ w = w' := by
  go_enter Try.func29, Try.ntmps29
  go_wp2
  go_loopw [1, 5] (fun kv i wr => nilI w kv i wr) (fun kv i _ => 0)
  case atStart => exact ⟨rfl, rfl, rfl⟩
  case round =>
    obtain ⟨rfl, rfl, rfl⟩ := hrel
    go_wp2
    go_ret
    exact ⟨rfl, rfl⟩
set_option maxHeartbeats 1000000 in
theorem heldBoolS_nil (w : World) : Calls Try.prog 30 #[.slice none 0 0, .int .i64 1] w fun e w' => e = .returned (.int .i64 1) ∧ w = w' := by
  go_enter Try.func30, Try.ntmps30
  go_wp2
  go_loopw [1, 5] (fun kv i wr => nilI w kv i wr) (fun kv i _ => 0)
  case atStart => exact ⟨rfl, rfl, rfl⟩
  case round =>
    obtain ⟨rfl, rfl, rfl⟩ := hrel
    go_wp2
    go_ret
    exact ⟨rfl, rfl⟩

end Go.Proofs.Ytjpcojabdjldbaa
