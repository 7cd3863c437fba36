/-
  Walks: texts held against each other, marked and looked at again; a string made a list of bytes.
-/
import Derived.Test.YtjpcojabdjldbaaPApp
import Derived.Test.YtjpcojabdjldbaaSame
import Derived.Lib.ConvBytes
namespace Go.Proofs.Ytjpcojabdjldbaa
open Go.RowKit
set_option linter.unusedVariables false
set_option linter.unusedSimpArgs false

/-- The bytes of a text. -/
def bT (s : ByteArray) (j : Nat) : Int := ((s.data.toList.getD j 0).toNat : Int)
theorem bv_get (s : ByteArray) (j : Nat) (h : j < s.size) : (bv s)[j]? = some (.int .u8 (bT s j)) := by
  have hj : j < s.data.toList.length := by rw [Array.length_toList]; exact h
  unfold bv bT
  rw [List.getElem?_map, List.getElem?_eq_getElem hj, List.getD, List.getElem?_eq_getElem hj]
  rfl

theorem OutQ.ints {Q : Nat → Prop} {w : World} {v : Value} {s : ByteArray} (h : OutQ Q w v s) : ∃ a c, v = .slice a s.size c ∧ Ints Q .u8 w a s.size (bT s) ∧ (s.size = 0 ∨ ∃ g, a = some ⟨g, 0, none⟩ ∧ Q g ∧ Wr w g s.size) := by
  rcases h.own with ⟨rfl, e, _⟩ | ⟨g, cap, rfl, hq, hl, hc, hcell, hwr⟩
  · exact ⟨none, 0, by rw [e], .inl e, .inl e⟩
  · exact ⟨_, _, rfl, .inr ⟨g, 0, rfl, hq, fun i hi => by rw [Nat.zero_add, hcell i (by rw [bv_len]; exact hi), bv_get s i hi]⟩, .inr ⟨g, rfl, hq, fun j hj => hwr j (by omega)⟩⟩

theorem to_bytes (w : World) (s : ByteArray) : ∃ a c W, (convert 9 22 (.string s)).run Try.prog w = .ok (.slice a s.size c) W ∧ Ints (fun b => b = w.heap.size) .u8 W a s.size (bT s) ∧ Below w.heap.size w W := by
  have hr := Lib.run_convert_string_bytes (P := Try.prog) w 9 22 5 s Try.underlying9 Try.underlying22 Try.underlying5
  refine ⟨_, _, _, hr, .inr ⟨w.heap.size, 0, rfl, rfl, fun i hi => ?_⟩, ?_⟩
  · rw [Nat.zero_add]
    exact Lib.bytesWorld_cell w 5 s i hi
  · refine ⟨?_, ?_, ?_, by rw [Lib.bytesWorld_size]; omega, fun k hk => Lib.bytesWorld_at_old w 5 s k hk⟩
    all_goals rfl

set_option maxHeartbeats 1000000 in
theorem eqByteS_big (Q Q' : Nat → Prop) (a a' : Option Addr) (n c c' : Nat) (S : Nat → Int) (w : World) (h1 : Ints Q .u8 w a n S) (h2 : Ints Q' .u8 w a' n S) (hn : n ≤ 16777216) :
    Calls Try.prog 12 #[.slice a n c, .slice a' n c'] w (SaysB True w) := by
  have ht := nne n
  go_enter Try.func12, Try.ntmps12
  go_wp2
  go_loopw [5] (fun i wr => ∃ k : Nat, k ≤ n ∧ i = .int .i64 k ∧ ∃ j, wr = w.drewN j) (fun i _ => n - (intOf i).toNat)
  case atStart => exact ⟨0, Nat.zero_le _, rfl, 0, rfl⟩
  case round =>
    obtain ⟨k, hk, rfl, j, rfl⟩ := hrel
    by_cases hlt : k < n
    · rcases h1 with h0 | ⟨b, off, rfl, hq, h1⟩
      · omega
      rcases h2 with h0 | ⟨b', off', rfl, hq', h2⟩
      · omega
      have hc1 := h1 k hlt
      have hc2 := h2 k hlt
      have hne := ine (S k)
      have hlt' : (k : Int) < (n : Int) := by omega
      go_wp2_with fail
      go_quiet (fail)
      go_wp2
      go_roundw
      case rel => exact ⟨k + 1, by omega, by go_num, _, rfl⟩
      case measure => simp [intOf]; omega
    · obtain rfl : k = n := by omega
      go_wp2
      go_ret
      exact ⟨⟨true, rfl, iffT trivial⟩, below_drewN (Below.refl _ _) _⟩

/-- The marks from 1 on. -/
def mkB (j : Nat) : Int := (((1 + j) % 256 : Nat) : Int)
theorem wrapB (j : Nat) : IntKind.u8.wrap ((1 + j : Nat) : Int) = mkB j := by
  unfold mkB
  simp [IntKind.wrap, IntKind.bits, IntKind.signed]
def MkTo (Q : Nat → Prop) (w : World) (a : Option Addr) (n k : Nat) : Prop := n = 0 ∨ ∃ g, a = some ⟨g, 0, none⟩ ∧ Q g ∧ Wr w g n ∧ ∀ j, j < k → w.cell? ⟨g, j, none⟩ = some (.int .u8 (mkB j))
theorem mkTo_step {w : World} {g n k : Nat} (hw : Wr w g n) (hc : ∀ j, j < k → w.cell? ⟨g, j, none⟩ = some (.int .u8 (mkB j))) (hk : k < n) :
    Wr (w.setCell ⟨g, k, none⟩ (.int .u8 (mkB k))) g n ∧ ∀ j, j < k + 1 → (w.setCell ⟨g, k, none⟩ (.int .u8 (mkB k))).cell? ⟨g, j, none⟩ = some (.int .u8 (mkB j)) := by
  obtain ⟨u, hu⟩ := Option.isSome_iff_exists.1 (hw k hk).1
  have same := World.cell?_setCell_same w ⟨g, k, none⟩ (.int .u8 (mkB k)) hu
  refine ⟨fun j hj => ⟨?_, ?_⟩, fun j hj => ?_⟩
  · by_cases e : j = k
    · subst e; rw [same]; rfl
    · rw [World.cell?_setCell_other _ _ _ _ (by simp only [ne_eq, Addr.mk.injEq, true_and, and_true]; omega)]
      exact (hw j hj).1
  · rw [World.frozen?_setCell]
    exact (hw j hj).2
  · by_cases e : j = k
    · subst e; exact same
    · rw [World.cell?_setCell_other _ _ _ _ (by simp only [ne_eq, Addr.mk.injEq, true_and, and_true]; omega)]
      exact hc j (by omega)

def markBI (Q : Nat → Prop) (w : World) (a : Option Addr) (n : Nat) (kv i : Value) (wr : World) : Prop := ∃ k : Nat, k ≤ n ∧ i = .int .i64 (k : Int) ∧ kv = .int .i64 ((1 + k : Nat) : Int) ∧ MkTo Q wr a n k ∧ Keep Q w wr

set_option maxHeartbeats 2000000 in
theorem markB_any (Q : Nat → Prop) (a : Option Addr) (n c : Nat) (w : World) (h : n = 0 ∨ ∃ g, a = some ⟨g, 0, none⟩ ∧ Q g ∧ Wr w g n) (hn : n ≤ 8388608) :
    Calls Try.prog 21 #[.slice a n c, .int .i64 1] w fun e w' => e = .returned (.int .i64 ((1 + n : Nat) : Int)) ∧ Ints Q .u8 w' a n mkB ∧ Keep Q w w' := by
  have H : Hid (MkTo Q w a n 0) := by
    rcases h with h | ⟨g, h1, h2, h3⟩
    · exact .inl h
    · exact .inr ⟨g, h1, h2, h3, fun j hj => absurd hj (Nat.not_lt_zero _)⟩
  clear h
  go_enter Try.func21, Try.ntmps21
  go_wp2
  go_loopw [1, 5] (fun kv i wr => markBI Q w a n kv i wr) (fun kv i _ => n - (intOf i).toNat)
  case atStart => exact ⟨0, Nat.zero_le _, rfl, rfl, H.out, Keep.refl _ _⟩
  case round =>
    obtain ⟨k, hk, rfl, rfl, hrow, hkp⟩ := hrel
    have HK : Hid (Keep Q w wr) := hkp
    have HR : Hid (MkTo Q wr a n k) := hrow
    by_cases hlt : k < n
    · rcases hrow with h0 | ⟨g, rfl, hq, hw, hc⟩
      · omega
      have HS : Hid (Wr (wr.setCell ⟨g, k, none⟩ (.int .u8 (mkB k))) g n ∧ ∀ j, j < k + 1 → (wr.setCell ⟨g, k, none⟩ (.int .u8 (mkB k))).cell? ⟨g, j, none⟩ = some (.int .u8 (mkB j))) := mkTo_step hw hc hlt
      obtain ⟨c1, hf2⟩ := hw k hlt
      obtain ⟨u, hc2⟩ := Option.isSome_iff_exists.1 c1
      have hw8 := wrapB k
      clear hkp hw hc c1
      go_wp2
      go_roundw
      case rel => exact ⟨k + 1, by omega, by go_num, by go_num, .inr ⟨g, rfl, hq, HS.out.1, HS.out.2⟩, HK.out.trans (Keep.setCell _ _ _ hq)⟩
      case measure => simp [intOf]; omega
    · obtain rfl : k = n := by omega
      go_wp2
      go_ret
      refine ⟨rfl, ?_, HK.out⟩
      rcases HR.out with h0 | ⟨g, rfl, hq, hw, hc⟩
      · exact .inl h0
      · exact .inr ⟨g, 0, rfl, hq, fun i hi => by rw [Nat.zero_add]; exact hc i hi⟩

def heldBI (w : World) (n : Nat) (kv i : Value) (wr : World) : Prop := ∃ k : Nat, k ≤ n ∧ i = .int .i64 (k : Int) ∧ kv = .int .i64 ((1 + k : Nat) : Int) ∧ wr = w
set_option maxHeartbeats 2000000 in
theorem heldB_any (Q : Nat → Prop) (a : Option Addr) (n c : Nat) (w : World) (h : Ints Q .u8 w a n mkB) (hn : n ≤ 8388608) :
    Calls Try.prog 22 #[.slice a n c, .int .i64 1] w fun e w' => e = .returned (.int .i64 ((1 + n : Nat) : Int)) ∧ w = w' := by
  go_enter Try.func22, Try.ntmps22
  go_wp2
  go_loopw [1, 5] (fun kv i wr => heldBI w n kv i wr) (fun kv i _ => n - (intOf i).toNat)
  case atStart => exact ⟨0, Nat.zero_le _, rfl, rfl, rfl⟩
  case round =>
    obtain ⟨k, hk, rfl, rfl, rfl⟩ := hrel
    by_cases hlt : k < n
    · rcases h with h0 | ⟨g, off, rfl, hq, hc⟩
      · omega
      have hc2 : wr.cell? ⟨g, off + k, none⟩ = some (.int .u8 (mkB k)) := hc k hlt
      have hne : (mkB k != (1 + (k : Int)) % 256) = false := by simp [mkB]
      clear hc
      go_wp2
      go_roundw
      case rel => exact ⟨k + 1, by omega, by go_num, by go_num, rfl⟩
      case measure => simp [intOf]; omega
    · obtain rfl : k = n := by omega
      go_wp2
      go_ret
      exact ⟨rfl, rfl⟩

end Go.Proofs.Ytjpcojabdjldbaa
