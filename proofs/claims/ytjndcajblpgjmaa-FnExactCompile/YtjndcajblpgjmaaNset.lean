/-
  Sets of nodes: four words of 64 bits.
-/
import Derived.Test.YtjndcajblpgjmaaFold
import Derived.Test.YtjndcajblpgjmaaMem
import Derived.Laws.BitsAllLaws
namespace Go.Proofs.Ytjndcajblpgjmaa
open Go.RowKit
open M (OpD NodeD Gr)
set_option linter.unusedVariables false

/-- Four words. -/
structure NS where
  a : Nat
  b : Nat
  c : Nat
  d : Nat
def NS.w (s : NS) (i : Nat) : Nat := if i = 0 then s.a else if i = 1 then s.b else if i = 2 then s.c else if i = 3 then s.d else 0
structure NS.OK (s : NS) : Prop where
  a : s.a < 18446744073709551616
  b : s.b < 18446744073709551616
  c : s.c < 18446744073709551616
  d : s.d < 18446744073709551616
def nz : NS := ⟨0, 0, 0, 0⟩
instance : Inhabited NS := ⟨nz⟩
def NS.has (s : NS) (p : Nat) : Bool := (s.w (p / 64)).testBit (p % 64)
def NS.put (s : NS) (p : Nat) : NS :=
  ⟨if p / 64 = 0 then s.a ||| 2 ^ (p % 64) else s.a, if p / 64 = 1 then s.b ||| 2 ^ (p % 64) else s.b, if p / 64 = 2 then s.c ||| 2 ^ (p % 64) else s.c, if p / 64 = 3 then s.d ||| 2 ^ (p % 64) else s.d⟩
def NS.join (s t : NS) : NS := ⟨s.a ||| t.a, s.b ||| t.b, s.c ||| t.c, s.d ||| t.d⟩
def nsv (s : NS) : Value := .agg #[.int .u64 s.a, .int .u64 s.b, .int .u64 s.c, .int .u64 s.d]

theorem NS.OK.zero : nz.OK := ⟨by decide, by decide, by decide, by decide⟩
theorem or_lt {x y : Nat} (hx : x < 18446744073709551616) (hy : y < 18446744073709551616) : x ||| y < 18446744073709551616 := Nat.or_lt_two_pow (n := 64) hx hy
theorem pow_lt {r : Nat} (h : r < 64) : 2 ^ r < 18446744073709551616 := Nat.pow_lt_pow_right (n := 64) (by decide) h
theorem NS.OK.put {s : NS} (h : s.OK) (p : Nat) : (s.put p).OK := by
  have hr : 2 ^ (p % 64) < 18446744073709551616 := pow_lt (Nat.mod_lt _ (by decide))
  refine ⟨?_, ?_, ?_, ?_⟩ <;> (simp only [NS.put]; split)
  · exact or_lt h.a hr
  · exact h.a
  · exact or_lt h.b hr
  · exact h.b
  · exact or_lt h.c hr
  · exact h.c
  · exact or_lt h.d hr
  · exact h.d
theorem NS.OK.join {s t : NS} (h : s.OK) (k : t.OK) : (s.join t).OK := ⟨or_lt h.a k.a, or_lt h.b k.b, or_lt h.c k.c, or_lt h.d k.d⟩

theorem q_cases {p : Nat} (h : p < 256) : p / 64 = 0 ∨ p / 64 = 1 ∨ p / 64 = 2 ∨ p / 64 = 3 := by omega
theorem nz_has (p : Nat) : nz.has p = false := by
  unfold NS.has NS.w
  split
  · simp [nz]
  · split
    · simp [nz]
    · split
      · simp [nz]
      · split <;> simp [nz]
theorem pow_bit (r k : Nat) : (2 ^ r).testBit k = (r == k) := by
  rw [Nat.testBit_two_pow]
  by_cases h : r = k <;> simp [h]
theorem put_has (s : NS) (p q : Nat) (hp : p < 256) (hq : q < 256) : (s.put p).has q = (s.has q || q == p) := by
  unfold NS.has NS.w NS.put
  have key : ∀ x : Nat, (x ||| 2 ^ (p % 64)).testBit (q % 64) = (x.testBit (q % 64) || (p % 64 == q % 64)) := fun x => by
    rw [Nat.testBit_or, pow_bit]
  have same : p / 64 = q / 64 → (p % 64 == q % 64) = (q == p) := fun e => by
    by_cases h : p % 64 = q % 64
    · have : q = p := by omega
      rw [this]; simp
    · have : ¬ q = p := fun h' => h (by rw [h'])
      rw [beq_eq_false_iff_ne.2 h, beq_eq_false_iff_ne.2 this]
  have diff : p / 64 ≠ q / 64 → (q == p) = false := fun e => by
    have : ¬ q = p := fun h' => e (by rw [h'])
    simp [this]
  rcases q_cases hq with h | h | h | h
  · simp only [h, if_pos]
    by_cases e : p / 64 = 0
    · rw [if_pos e, key, same (by omega)]
    · rw [if_neg e, diff (by omega), Bool.or_false]
  · simp only [h]
    by_cases e : p / 64 = 1
    · simp [e, key, same (by omega)]
    · simp [e, diff (by omega)]
  · simp only [h]
    by_cases e : p / 64 = 2
    · simp [e, key, same (by omega)]
    · simp [e, diff (by omega)]
  · simp only [h]
    by_cases e : p / 64 = 3
    · simp [e, key, same (by omega)]
    · simp [e, diff (by omega)]
theorem join_has (s t : NS) (q : Nat) : (s.join t).has q = (s.has q || t.has q) := by
  unfold NS.has NS.w NS.join
  split
  · simp
  · split
    · simp
    · split
      · simp
      · split <;> simp

theorem bit_of (x r : Nat) (hx : x < 18446744073709551616) : (bits .and .u64 ((x : Int) / 2 ^ r) 1 == 1) = x.testBit r := by
  have e : (x : Int) / 2 ^ r = ((x / 2 ^ r : Nat) : Int) := by simp
  have hl : x / 2 ^ r < 18446744073709551616 := Nat.lt_of_le_of_lt (Nat.div_le_self _ _) hx
  have h1 := u64_and_nat (x / 2 ^ r) 1 hl (by decide)
  rw [e, show (1 : Int) = ((1 : Nat) : Int) from rfl, h1, nat_mask1, Nat.testBit_eq_decide_div_mod_eq]
  by_cases h : x / 2 ^ r % 2 = 1
  · simp [h]
  · have : x / 2 ^ r % 2 = 0 := by omega
    simp [this]

set_option maxHeartbeats 1000000 in
theorem has_any (s : NS) (p : Nat) (w : World) (hs : s.OK) (hp : p < 256) :
    Calls Try.prog 77 #[nsv s, .int .i64 p] w fun e w' => e = .returned (.bool (s.has p)) ∧ w' = w.alloc (.cells #[.int .u64 s.a, .int .u64 s.b, .int .u64 s.c, .int .u64 s.d] 100) := by
  unfold nsv
  have hq : (p : Int).tdiv 64 = ((p / 64 : Nat) : Int) := by simp [Int.tdiv_eq_ediv]
  have hr : (p : Int).tmod 64 = ((p % 64 : Nat) : Int) := by simp [Int.tmod_eq_emod]
  have hr2 : p % 64 < 64 := Nat.mod_lt _ (by decide)
  rcases q_cases hp with h | h | h | h
  all_goals (
    rw [h] at hq
    go_enter Try.func77, Try.ntmps77
    go_wp2
    go_ret
    refine ⟨ret_bool ?_, rfl⟩
    unfold NS.has NS.w
    rw [h]
    first
      | exact bit_of _ _ hs.a
      | exact bit_of _ _ hs.b
      | exact bit_of _ _ hs.c
      | exact bit_of _ _ hs.d)

theorem or_of (x r : Nat) (hx : x < 18446744073709551616) (h : r < 64) : bits .or .u64 (x : Int) (IntKind.u64.wrap (2 ^ r)) = ((x ||| 2 ^ r : Nat) : Int) := by
  have hp := pow_lt h
  have e : (2 : Int) ^ r = ((2 ^ r : Nat) : Int) := by simp
  have e2 : IntKind.u64.wrap (2 ^ r) = ((2 ^ r : Nat) : Int) := by
    rw [e]
    generalize 2 ^ r = x at *
    simp [IntKind.wrap, IntKind.bits, IntKind.signed]
    omega
  rw [e2]
  exact u64_or_nat x (2 ^ r) hx hp

theorem ret_ns {a b c d : Int} {s : NS} (h1 : a = s.a) (h2 : b = s.b) (h3 : c = s.c) (h4 : d = s.d) : Ending.returned (.agg #[.int .u64 a, .int .u64 b, .int .u64 c, .int .u64 d]) = .returned (.agg #[.int .u64 s.a, .int .u64 s.b, .int .u64 s.c, .int .u64 s.d]) := by
  rw [h1, h2, h3, h4]

set_option maxHeartbeats 1000000 in
theorem with_any (s : NS) (p : Nat) (w : World) (hs : s.OK) (hp : p < 256) :
    Calls Try.prog 140 #[nsv s, .int .i64 p] w fun e w' => e = .returned (nsv (s.put p)) ∧ Below w.heap.size w w' := by
  unfold nsv
  have hq : (p : Int).tdiv 64 = ((p / 64 : Nat) : Int) := by simp [Int.tdiv_eq_ediv]
  have hr : (p : Int).tmod 64 = ((p % 64 : Nat) : Int) := by simp [Int.tmod_eq_emod]
  have hr2 : p % 64 < 64 := Nat.mod_lt _ (by decide)
  rcases q_cases hp with h | h | h | h
  all_goals (
    rw [h] at hq
    go_enter Try.func140, Try.ntmps140
    go_wp2
    go_region
    go_wp2
    refine bodyPost_ret (by simp [results, Try.f140, go_sem]; rfl) rfl ?_
    refine ⟨ret_ns ?_ ?_ ?_ ?_, (bel2 w _ _).drew⟩
    all_goals (
      simp only [NS.put, h]
      first
        | rfl
        | exact or_of _ _ hs.a hr2
        | exact or_of _ _ hs.b hr2
        | exact or_of _ _ hs.c hr2
        | exact or_of _ _ hs.d hr2))

/-- The first k words joined. -/
def part (s t : NS) (k : Nat) : NS := ⟨if 0 < k then s.a ||| t.a else s.a, if 1 < k then s.b ||| t.b else s.b, if 2 < k then s.c ||| t.c else s.c, if 3 < k then s.d ||| t.d else s.d⟩
def nsc (s : NS) : Obj := .cells #[.int .u64 s.a, .int .u64 s.b, .int .u64 s.c, .int .u64 s.d] 100
def unionI (w : World) (s t : NS) (i : Value) (wr : World) : Prop :=
  ∃ k : Nat, k ≤ 4 ∧ i = .int .i64 (k : Int) ∧ wr = ((w.alloc (nsc (part s t k))).alloc (nsc t)).alloc (nsc nz)

theorem part0 (s t : NS) : part s t 0 = s := rfl
theorem part1 (s t : NS) : part s t 1 = ⟨s.a ||| t.a, s.b, s.c, s.d⟩ := rfl
theorem part2 (s t : NS) : part s t 2 = ⟨s.a ||| t.a, s.b ||| t.b, s.c, s.d⟩ := rfl
theorem part3 (s t : NS) : part s t 3 = ⟨s.a ||| t.a, s.b ||| t.b, s.c ||| t.c, s.d⟩ := rfl
theorem part4 (s t : NS) : part s t 4 = ⟨s.a ||| t.a, s.b ||| t.b, s.c ||| t.c, s.d ||| t.d⟩ := rfl

set_option maxRecDepth 100000 in
set_option maxHeartbeats 1000000 in
theorem union_any (s t : NS) (w : World) (hs : s.OK) (ht : t.OK) :
    Calls Try.prog 141 #[nsv s, nsv t] w fun e w' => e = .returned (nsv (s.join t)) ∧ Below w.heap.size w w' := by
  obtain ⟨a, b, c, d⟩ := s
  obtain ⟨a', b', c', d'⟩ := t
  have o1 : bits .or .u64 (a : Int) a' = ((a ||| a' : Nat) : Int) := u64_or_nat _ _ hs.a ht.a
  have o2 : bits .or .u64 (b : Int) b' = ((b ||| b' : Nat) : Int) := u64_or_nat _ _ hs.b ht.b
  have o3 : bits .or .u64 (c : Int) c' = ((c ||| c' : Nat) : Int) := u64_or_nat _ _ hs.c ht.c
  have o4 : bits .or .u64 (d : Int) d' = ((d ||| d' : Nat) : Int) := u64_or_nat _ _ hs.d ht.d
  have i0 : ∀ w : World, (Instr.index 100 (.agg #[.int .u64 a', .int .u64 b', .int .u64 c', .int .u64 d']) (.int .i64 0)).run Try.prog w = .ok (.int .u64 a') w := fun _ => by kernel_rfl
  have i1 : ∀ w : World, (Instr.index 100 (.agg #[.int .u64 a', .int .u64 b', .int .u64 c', .int .u64 d']) (.int .i64 1)).run Try.prog w = .ok (.int .u64 b') w := fun _ => by kernel_rfl
  have i2 : ∀ w : World, (Instr.index 100 (.agg #[.int .u64 a', .int .u64 b', .int .u64 c', .int .u64 d']) (.int .i64 2)).run Try.prog w = .ok (.int .u64 c') w := fun _ => by kernel_rfl
  have i3 : ∀ w : World, (Instr.index 100 (.agg #[.int .u64 a', .int .u64 b', .int .u64 c', .int .u64 d']) (.int .i64 3)).run Try.prog w = .ok (.int .u64 d') w := fun _ => by kernel_rfl
  simp only [nsv, NS.join]
  go_enter Try.func141, Try.ntmps141
  go_wp2
  go_loopw [8] (fun i wr => unionI w ⟨a, b, c, d⟩ ⟨a', b', c', d'⟩ i wr) (fun i _ => 4 - (intOf i).toNat)
  case atStart => exact ⟨0, by omega, rfl, rfl⟩
  case round =>
    obtain ⟨k, hk, rfl, rfl⟩ := hrel
    have hc : k = 0 ∨ k = 1 ∨ k = 2 ∨ k = 3 ∨ k = 4 := by omega
    rcases hc with rfl | rfl | rfl | rfl | rfl
    · simp only [nsc, part0, nz]
      go_wp2
      go_roundw
      case rel => exact ⟨1, by omega, rfl, by simp only [nsc, part1, nz]; rfl⟩
      case measure => simp [intOf]
    · simp only [nsc, part1, nz]
      go_wp2
      go_roundw
      case rel => exact ⟨2, by omega, rfl, by simp only [nsc, part2, nz]; rfl⟩
      case measure => simp [intOf]
    · simp only [nsc, part2, nz]
      go_wp2
      go_roundw
      case rel => exact ⟨3, by omega, rfl, by simp only [nsc, part3, nz]; rfl⟩
      case measure => simp [intOf]
    · simp only [nsc, part3, nz]
      go_wp2
      go_roundw
      case rel => exact ⟨4, by omega, rfl, by simp only [nsc, part4, nz]; rfl⟩
      case measure => simp [intOf]
    · simp only [nsc, part4, nz]
      go_wp2
      refine bodyPost_ret (by simp [results, Try.f141, go_sem]; rfl) rfl ?_
      exact ⟨rfl, bel3 w _ _ _⟩

end Go.Proofs.Ytjndcajblpgjmaa
