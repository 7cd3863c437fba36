/-
  Walks: marks, told by their shape alone.
-/
import Derived.Test.YtjndcajblpgjmaaCopyG
import Derived.Deep.Slices
namespace Go.Proofs.Ytjndcajblpgjmaa
open Go.RowKit
open M (OpD NodeD Gr)
set_option linter.unusedVariables false

/-- Two cells of one shape. -/
def like (u v : Option Value) : Prop := (∃ k m n, u = some (.int k m) ∧ v = some (.int k n)) ∨ (∃ b c, u = some (.bool b) ∧ v = some (.bool c)) ∨ v = u
theorem like.refl (u : Option Value) : like u u := .inr (.inr rfl)
theorem like.trans {u v x : Option Value} (h : like u v) (k : like v x) : like u x := by
  rcases h with ⟨κ, m, n, rfl, rfl⟩ | ⟨b, c, rfl, rfl⟩ | rfl
  · rcases k with ⟨κ', m', n', h, rfl⟩ | ⟨b, c, h, _⟩ | rfl
    · cases h; exact .inl ⟨_, _, _, rfl, rfl⟩
    · cases h
    · exact .inl ⟨_, _, _, rfl, rfl⟩
  · rcases k with ⟨κ', m', n', h, _⟩ | ⟨b, c, h, rfl⟩ | rfl
    · cases h
    · cases h; exact .inr (.inl ⟨_, _, rfl, rfl⟩)
    · exact .inr (.inl ⟨_, _, rfl, rfl⟩)
  · exact k

/-- Numbers and bools in blocks of Q were written over; nothing else has turned. -/
structure Wrote (Q : Nat → Prop) (w w' : World) : Prop where
  os : w'.os = w.os
  tape : w'.tape = w.tape
  output : w'.output = w.output
  size : w'.heap.size = w.heap.size
  block : ∀ b, ¬ Q b → w'.heap[b]? = w.heap[b]?
  cell : ∀ a, like (w.cell? a) (w'.cell? a)
  frozen : ∀ a, w'.frozen? a = w.frozen? a
theorem Wrote.refl (Q : Nat → Prop) (w : World) : Wrote Q w w := ⟨rfl, rfl, rfl, rfl, fun _ _ => rfl, fun _ => like.refl _, fun _ => rfl⟩
theorem Wrote.trans {Q : Nat → Prop} {a b c : World} (h : Wrote Q a b) (k : Wrote Q b c) : Wrote Q a c :=
  ⟨k.os.trans h.os, k.tape.trans h.tape, k.output.trans h.output, k.size.trans h.size, fun x hx => (k.block x hx).trans (h.block x hx), fun x => (h.cell x).trans (k.cell x), fun x => (k.frozen x).trans (h.frozen x)⟩
theorem Wrote.setInt {Q : Nat → Prop} {w : World} {b o : Nat} {κ : IntKind} {m : Int} (hq : Q b) (h : w.cell? ⟨b, o, none⟩ = some (.int κ m)) (n : Int) : Wrote Q w (w.setCell ⟨b, o, none⟩ (.int κ n)) :=
  ⟨rfl, rfl, rfl, size_set _ _ _, fun x hx => Below.heap_setCell _ _ _ _ (fun e => hx (e ▸ hq)), fun x => by
    by_cases e : x = ⟨b, o, none⟩
    · subst e; rw [h, cell_set_same h]; exact .inl ⟨_, _, _, rfl, rfl⟩
    · rw [World.cell?_setCell_other w _ _ _ (fun q => e q.symm)]; exact like.refl _, fun x => World.frozen?_setCell _ _ _ _⟩
theorem Wrote.setBool {Q : Nat → Prop} {w : World} {b o : Nat} {m : Bool} (hq : Q b) (h : w.cell? ⟨b, o, none⟩ = some (.bool m)) (n : Bool) : Wrote Q w (w.setCell ⟨b, o, none⟩ (.bool n)) :=
  ⟨rfl, rfl, rfl, size_set _ _ _, fun x hx => Below.heap_setCell _ _ _ _ (fun e => hx (e ▸ hq)), fun x => by
    by_cases e : x = ⟨b, o, none⟩
    · subst e; rw [h, cell_set_same h]; exact .inr (.inl ⟨_, _, rfl, rfl⟩)
    · rw [World.cell?_setCell_other w _ _ _ (fun q => e q.symm)]; exact like.refl _, fun x => World.frozen?_setCell _ _ _ _⟩

theorem like_int {w w' : World} {Q : Nat → Prop} (h : Wrote Q w w') {a : Addr} {κ : IntKind} {m : Int} (c : w.cell? a = some (.int κ m)) : ∃ n, w'.cell? a = some (.int κ n) := by
  rcases h.cell a with ⟨k, m', n, h1, h2⟩ | ⟨_, _, h1, _⟩ | h1
  · rw [c] at h1; cases h1; exact ⟨n, h2⟩
  · rw [c] at h1; cases h1
  · exact ⟨m, h1.trans c⟩
theorem like_bool {w w' : World} {Q : Nat → Prop} (h : Wrote Q w w') {a : Addr} {m : Bool} (c : w.cell? a = some (.bool m)) : ∃ n, w'.cell? a = some (.bool n) := by
  rcases h.cell a with ⟨k, m', n, h1, h2⟩ | ⟨_, n, h1, h2⟩ | h1
  · rw [c] at h1; cases h1
  · exact ⟨n, h2⟩
  · exact ⟨m, h1.trans c⟩
theorem like_slice {w w' : World} {Q : Nat → Prop} (h : Wrote Q w w') {x : Addr} {a : Option Addr} {n c : Nat} (q : w.cell? x = some (.slice a n c)) : w'.cell? x = some (.slice a n c) := by
  rcases h.cell x with ⟨k, m', n, h1, h2⟩ | ⟨_, _, h1, _⟩ | h1
  · rw [q] at h1; cases h1
  · rw [q] at h1; cases h1
  · exact h1.trans q

theorem Ints.wrote {Q Q' : Nat → Prop} {κ : IntKind} {w w' : World} {a : Option Addr} {n : Nat} {S : Nat → Int} (h : Ints Q κ w a n S) (t : Wrote Q' w w') : ∃ S', Ints Q κ w' a n S' := by
  rcases h with h | ⟨b, off, e, hq, h⟩
  · exact ⟨S, .inl h⟩
  · obtain ⟨S', hS⟩ := Deep.choose_lt (n := n) (p := fun i v => w'.cell? ⟨b, off + i, none⟩ = some (.int κ v)) (fun i hi => like_int t (h i hi))
    exact ⟨S', .inr ⟨b, off, e, hq, hS⟩⟩
theorem OpC.wrote {Q Q' : Nat → Prop} {w w' : World} {b o : Nat} {d : OpD} (h : OpC Q w b o d) (t : Wrote Q' w w') : ∃ d', OpC Q w' b o d' ∧ d'.sl = d.sl := by
  obtain ⟨h1, ⟨a, c, h2, h3⟩, h4⟩ := h
  obtain ⟨k, h1'⟩ := like_int t h1
  obtain ⟨g, h4'⟩ := like_int t h4
  obtain ⟨S', h3'⟩ := h3.wrote t
  exact ⟨⟨k, d.sl, S', g⟩, ⟨h1', ⟨a, c, like_slice t h2, h3'⟩, h4'⟩, rfl⟩
theorem OpsA.wrote {Q Q' : Nat → Prop} {w w' : World} {a : Option Addr} {n : Nat} {B : Nat → OpD} (h : OpsA Q w a n B) (hs : SmallB n B) (t : Wrote Q' w w') : ∃ B', OpsA Q w' a n B' ∧ SmallB n B' := by
  rcases h with h | ⟨b, off, e, hq, h⟩
  · exact ⟨B, .inl h, hs⟩
  · obtain ⟨B', hB⟩ := Deep.choose_lt (n := n) (p := fun i d => OpC Q w' b (off + i * 3) d ∧ d.sl = (B i).sl) (fun i hi => (h i hi).wrote t)
    exact ⟨B', .inr ⟨b, off, e, hq, fun i hi => (hB i hi).1⟩, hs.1, fun i hi => by rw [(hB i hi).2]; exact hs.2 i hi⟩

/-- A mark answers a number between k and k + c. -/
def MarkIs (Q : Nat → Prop) (k c : Int) (w : World) (e : Ending) (w' : World) : Prop := (∃ r : Int, e = .returned (.int .i64 r) ∧ k ≤ r ∧ r ≤ k + c) ∧ Wrote Q w w'
/-- The blocks of Q may be written. -/
def SoftQ (Q : Nat → Prop) (w : World) : Prop := ∀ b o, Q b → w.frozen? ⟨b, o, none⟩ = false
theorem SoftQ.on {Q Q' : Nat → Prop} {w w' : World} (h : SoftQ Q w) (t : Wrote Q' w w') : SoftQ Q w' := fun b o hb => (t.frozen _).trans (h b o hb)

def mkI (Q : Nat → Prop) (w : World) (n : Nat) (k u : Int) (kv i : Value) (wr : World) : Prop :=
  ∃ (m : Nat) (r : Int), m ≤ n ∧ kv = .int .i64 r ∧ k ≤ r ∧ r ≤ k + m * u ∧ i = .int .i64 (m : Int) ∧ Wrote Q w wr

set_option maxHeartbeats 1000000 in
theorem markIntS_shape' (Q : Nat → Prop) (a : Option Addr) (n c : Nat) (S : Nat → Int) (k : Int) (w : World) (hS : Ints Q .i64 w a n S) (hf : SoftQ Q w) (hn : n ≤ 1048576) (h0 : 0 ≤ k) (h1 : k ≤ 4611686018427387904 + 1099513724928) :
    Calls Try.prog 89 #[.slice a n c, .int .i64 k] w (MarkIs Q k 1048576 w) := by
  have HS : Hid (Ints Q .i64 w a n S) := hS
  have HF : Hid (SoftQ Q w) := hf
  clear hS hf
  go_enter Try.func89, Try.ntmps89
  go_wp2
  go_loopw [1, 5] (fun kv i wr => mkI Q w n k 1 kv i wr) (fun kv i _ => n - (intOf i).toNat)
  case atStart => exact ⟨0, k, Nat.zero_le _, rfl, by omega, by omega, rfl, Wrote.refl _ _⟩
  case round =>
    obtain ⟨m, r, hm, rfl, r0, r1, rfl, hw⟩ := hrel
    by_cases hlt : m < n
    · obtain ⟨S', hS'⟩ := HS.out.wrote hw
      rcases hS' with h0 | ⟨b, off, rfl, hq, hS'⟩
      · omega
      have hc := hS' m hlt
      have hfz := (HF.out.on hw) b (off + m) hq
      have HW : Hid (Wrote Q w (wr.setCell ⟨b, off + m, none⟩ (.int .i64 r))) := hw.trans (Wrote.setInt hq hc r)
      clear hw hS'
      go_wp2
      go_roundw
      case rel => exact ⟨m + 1, r + 1, by omega, rfl, by omega, by omega, by go_num, HW.out⟩
      case measure => simp [intOf]; omega
    · obtain rfl : m = n := by omega
      go_wp2
      go_ret
      exact ⟨⟨r, rfl, r0, by omega⟩, hw⟩

set_option maxHeartbeats 1000000 in
theorem markByteS_shape (Q : Nat → Prop) (a : Option Addr) (n c : Nat) (S : Nat → Int) (k : Int) (w : World) (hS : Ints Q .u8 w a n S) (hf : SoftQ Q w) (hn : n ≤ 1048576) (h0 : 0 ≤ k) (h1 : k ≤ 4611686018427387904) :
    Calls Try.prog 23 #[.slice a n c, .int .i64 k] w (MarkIs Q k 1048576 w) := by
  have HS : Hid (Ints Q .u8 w a n S) := hS
  have HF : Hid (SoftQ Q w) := hf
  clear hS hf
  go_enter Try.func23, Try.ntmps23
  go_wp2
  go_loopw [1, 5] (fun kv i wr => mkI Q w n k 1 kv i wr) (fun kv i _ => n - (intOf i).toNat)
  case atStart => exact ⟨0, k, Nat.zero_le _, rfl, by omega, by omega, rfl, Wrote.refl _ _⟩
  case round =>
    obtain ⟨m, r, hm, rfl, r0, r1, rfl, hw⟩ := hrel
    by_cases hlt : m < n
    · obtain ⟨S', hS'⟩ := HS.out.wrote hw
      rcases hS' with h0 | ⟨b, off, rfl, hq, hS'⟩
      · omega
      have hc := hS' m hlt
      have hfz := (HF.out.on hw) b (off + m) hq
      have HW : Hid (∀ v, Wrote Q w (wr.setCell ⟨b, off + m, none⟩ (.int .u8 v))) := fun v => hw.trans (Wrote.setInt hq hc v)
      clear hw hS'
      go_wp2
      go_roundw
      case rel => exact ⟨m + 1, r + 1, by omega, rfl, by omega, by omega, by go_num, HW.out _⟩
      case measure => simp [intOf]; omega
    · obtain rfl : m = n := by omega
      go_wp2
      go_ret
      exact ⟨⟨r, rfl, r0, by omega⟩, hw⟩

set_option maxHeartbeats 2000000 in
theorem markOpS_shape (Q : Nat → Prop) (a : Option Addr) (n c : Nat) (B : Nat → OpD) (k : Int) (w : World) (hB : OpsA Q w a n B) (hs : SmallB n B) (hf : SoftQ Q w) (h0 : 0 ≤ k) (h1 : k ≤ 4611686018427387904) :
    Calls Try.prog 129 #[.slice a n c, .int .i64 k] w (MarkIs Q k 1099513724928 w) := by
  have HB : Hid (OpsA Q w a n B) := hB
  have HSB : Hid (SmallB n B) := hs
  have HF : Hid (SoftQ Q w) := hf
  have hn := hs.1
  clear hB hs hf
  go_enter Try.func129, Try.ntmps129
  go_wp2
  go_loopw [1, 5] (fun kv i wr => mkI Q w n k 1048578 kv i wr) (fun kv i _ => n - (intOf i).toNat)
  case atStart => exact ⟨0, k, Nat.zero_le _, rfl, by omega, by omega, rfl, Wrote.refl _ _⟩
  case round =>
    obtain ⟨m, r, hm, rfl, r0, r1, rfl, hw⟩ := hrel
    by_cases hlt : m < n
    · obtain ⟨B', hB', hs'⟩ := HB.out.wrote HSB.out hw
      rcases hB' with h0 | ⟨b, off, rfl, hq, hB'⟩
      · omega
      obtain ⟨c0, ⟨sa, sc, c1, hs1⟩, c2⟩ := hB' m hlt
      have hsl := hs'.2 m hlt
      have hlt' : (m : Int) < (n : Int) := by omega
      have hf0 := HF.out.on hw
      have fz0 := hf0 b (off + m * 3) hq
      have hw1 := Wrote.setInt hq c0 r
      obtain ⟨S2, hS2⟩ := hs1.wrote hw1
      have HS2 : Hid (Ints Q .i64 (wr.setCell ⟨b, off + m * 3, none⟩ (.int .i64 r)) sa (B' m).sl S2) := hS2
      have HF2 : Hid (SoftQ Q (wr.setCell ⟨b, off + m * 3, none⟩ (.int .i64 r))) := hf0.on hw1
      have HW1 : Hid (Wrote Q w (wr.setCell ⟨b, off + m * 3, none⟩ (.int .i64 r))) := hw.trans hw1
      have d2 : (wr.setCell ⟨b, off + m * 3, none⟩ (.int .i64 r)).cell? ⟨b, off + m * 3 + 2, none⟩ = some (.int .i64 (B' m).arg) := by rw [cell_set_other (by omega)]; exact c2
      have D2 : Hid ((wr.setCell ⟨b, off + m * 3, none⟩ (.int .i64 r)).cell? ⟨b, off + m * 3 + 2, none⟩ = some (.int .i64 (B' m).arg)) := d2
      have rb0 : 0 ≤ r + 1 := by omega
      have rb1 : r + 1 ≤ 4611686018427387904 + 1099513724928 := by omega
      clear hw hB' hs' hs1 hw1 hS2 hf0 c2 d2
      go_wp2_with (go_at_call 89; refine (markIntS_shape' Q sa (B' m).sl sc S2 (r + 1) _ HS2.out HF2.out hsl rb0 rb1).mono ?_; rintro e W ⟨⟨q, rfl, q0, q1⟩, hW⟩; obtain ⟨g2, e2⟩ := like_int hW D2.out; have fz2 := (HF2.out.on hW) b (off + m * 3 + 2) hq; have HW2 : Hid (Wrote Q w (W.setCell ⟨b, off + m * 3 + 2, none⟩ (.int .i64 q))) := (HW1.out.trans hW).trans (Wrote.setInt hq e2 q); clear hW)
      go_roundw
      case rel => exact ⟨m + 1, q + 1, by omega, rfl, by omega, by omega, by go_num, HW2.out⟩
      case measure => simp [intOf]; omega
    · obtain rfl : m = n := by omega
      go_wp2
      go_ret
      exact ⟨⟨r, rfl, r0, by omega⟩, hw⟩

structure SmallM (d : NodeD) : Prop where
  name : d.nl ≤ 1048576
  body : SmallB d.bl d.body
theorem SmallN.m {d : NodeD} (h : SmallN d) : SmallM d := ⟨h.name, h.body⟩

theorem RuleC.wrote {Q Q' : Nat → Prop} {w w' : World} {b o : Nat} {d : NodeD} (h : RuleC Q w b o d) (hs : SmallM d) (t : Wrote Q' w w') : ∃ d', RuleC Q w' b o d' ∧ SmallM d' := by
  obtain ⟨⟨a, c, h1, h2⟩, ⟨a', c', h3, h4⟩⟩ := h
  obtain ⟨S', h2'⟩ := h2.wrote t
  obtain ⟨B', h4', hb⟩ := h4.wrote hs.body t
  exact ⟨⟨d.nl, S', d.has, d.bl, B'⟩, ⟨⟨a, c, like_slice t h1, h2'⟩, ⟨a', c', like_slice t h3, h4'⟩⟩, ⟨hs.name, hb⟩⟩
theorem LabC.wrote {Q Q' : Nat → Prop} {w w' : World} {b o : Nat} {d : NodeD} (h : LabC Q w b o d) (hs : SmallM d) (t : Wrote Q' w w') : ∃ d', LabC Q w' b o d' ∧ SmallM d' := by
  obtain ⟨⟨a, c, h1, h2⟩, h0, ⟨a', c', h3, h4⟩⟩ := h
  obtain ⟨S', h2'⟩ := h2.wrote t
  obtain ⟨x, h0'⟩ := like_bool t h0
  obtain ⟨B', h4', hb⟩ := h4.wrote hs.body t
  exact ⟨⟨d.nl, S', x, d.bl, B'⟩, ⟨⟨a, c, like_slice t h1, h2'⟩, h0', ⟨a', c', like_slice t h3, h4'⟩⟩, ⟨hs.name, hb⟩⟩
theorem RulesA.wrote {Q Q' : Nat → Prop} {w w' : World} {a : Option Addr} {n : Nat} {R : Nat → NodeD} (h : RulesA Q w a n R) (hs : ∀ i, i < n → SmallM (R i)) (t : Wrote Q' w w') : ∃ R', RulesA Q w' a n R' ∧ ∀ i, i < n → SmallM (R' i) := by
  rcases h with h | ⟨b, off, e, hq, h⟩
  · exact ⟨R, .inl h, hs⟩
  · obtain ⟨R', hR⟩ := Deep.choose_lt (n := n) (p := fun i d => RuleC Q w' b (off + i * 2) d ∧ SmallM d) (fun i hi => (h i hi).wrote (hs i hi) t)
    exact ⟨R', .inr ⟨b, off, e, hq, fun i hi => (hR i hi).1⟩, fun i hi => (hR i hi).2⟩
theorem LabsA.wrote {Q Q' : Nat → Prop} {w w' : World} {a : Option Addr} {n : Nat} {R : Nat → NodeD} (h : LabsA Q w a n R) (hs : ∀ i, i < n → SmallM (R i)) (t : Wrote Q' w w') : ∃ R', LabsA Q w' a n R' ∧ ∀ i, i < n → SmallM (R' i) := by
  rcases h with h | ⟨b, off, e, hq, h⟩
  · exact ⟨R, .inl h, hs⟩
  · obtain ⟨R', hR⟩ := Deep.choose_lt (n := n) (p := fun i d => LabC Q w' b (off + i * 3) d ∧ SmallM d) (fun i hi => (h i hi).wrote (hs i hi) t)
    exact ⟨R', .inr ⟨b, off, e, hq, fun i hi => (hR i hi).1⟩, fun i hi => (hR i hi).2⟩

set_option maxHeartbeats 2000000 in
theorem markRuleS_shape (Q : Nat → Prop) (a : Option Addr) (n c : Nat) (R : Nat → NodeD) (k : Int) (w : World) (hR : RulesA Q w a n R) (hs : ∀ i, i < n → SmallM (R i)) (hn : n ≤ 1048576) (hf : SoftQ Q w) (h0 : 0 ≤ k) (h1 : k ≤ 2305843009213693952) :
    Calls Try.prog 67 #[.slice a n c, .int .i64 k] w (MarkIs Q k 1152924803141730304 w) := by
  have HR : Hid (RulesA Q w a n R) := hR
  have HSB : Hid (∀ i, i < n → SmallM (R i)) := hs
  have HF : Hid (SoftQ Q w) := hf
  clear hR hs hf
  go_enter Try.func67, Try.ntmps67
  go_wp2
  go_loopw [1, 5] (fun kv i wr => mkI Q w n k 1099514773504 kv i wr) (fun kv i _ => n - (intOf i).toNat)
  case atStart => exact ⟨0, k, Nat.zero_le _, rfl, by omega, by omega, rfl, Wrote.refl _ _⟩
  case round =>
    obtain ⟨m, r, hm, rfl, r0, r1, rfl, hw⟩ := hrel
    by_cases hlt : m < n
    · obtain ⟨R', hR', hs'⟩ := HR.out.wrote HSB.out hw
      rcases hR' with h0 | ⟨b, off, rfl, hq, hR'⟩
      · omega
      obtain ⟨⟨na, nc, c0, hs1⟩, ⟨ba, bc, c2, hs2⟩⟩ := hR' m hlt
      have HSM : Hid (SmallM (R' m)) := hs' m hlt
      have hlt' : (m : Int) < (n : Int) := by omega
      have HF0 : Hid (SoftQ Q wr) := HF.out.on hw
      have HN : Hid (Ints Q .u8 wr na (R' m).nl (R' m).name) := hs1
      have HO : Hid (OpsA Q wr ba (R' m).bl (R' m).body) := hs2
      have HW : Hid (Wrote Q w wr) := hw
      have rb0 : 0 ≤ r := by omega
      have rb1 : r ≤ 4611686018427387904 := by omega
      clear hw hR' hs' hs1 hs2
      go_wp2_with (first | (go_at_call 23; refine (markByteS_shape Q na (R' m).nl nc (R' m).name r _ HN.out HF0.out HSM.out.name rb0 rb1).mono ?_; rintro e W ⟨⟨q, rfl, q0, q1⟩, hW⟩; have x2 := like_slice hW c2; obtain ⟨B2, hB2, hs2⟩ := HO.out.wrote HSM.out.body hW; have HO2 : Hid (OpsA Q W ba (R' m).bl B2) := hB2; have HS2 : Hid (SmallB (R' m).bl B2) := hs2; have HF2 : Hid (SoftQ Q W) := HF0.out.on hW; have HW2 : Hid (Wrote Q w W) := HW.out.trans hW; clear hW hB2 hs2) | (go_at_call 129; refine (markOpS_shape Q ba (R' m).bl bc B2 q _ HO2.out HS2.out HF2.out (by omega) (by omega)).mono ?_; rintro e W3 ⟨⟨q3, rfl, q30, q31⟩, hW3⟩; have HW3 : Hid (Wrote Q w W3) := HW2.out.trans hW3; clear hW3))
      go_roundw
      case rel => exact ⟨m + 1, q3, by omega, rfl, by omega, by omega, by go_num, HW3.out⟩
      case measure => simp [intOf]; omega
    · obtain rfl : m = n := by omega
      go_wp2
      go_ret
      exact ⟨⟨r, rfl, r0, by omega⟩, hw⟩

set_option maxHeartbeats 2000000 in
theorem markLabelS_shape (Q : Nat → Prop) (a : Option Addr) (n c : Nat) (R : Nat → NodeD) (k : Int) (w : World) (hR : LabsA Q w a n R) (hs : ∀ i, i < n → SmallM (R i)) (hn : n ≤ 1048576) (hf : SoftQ Q w) (h0 : 0 ≤ k) (h1 : k ≤ 2305843009213693952) :
    Calls Try.prog 68 #[.slice a n c, .int .i64 k] w (MarkIs Q k 1152924803142778880 w) := by
  have HR : Hid (LabsA Q w a n R) := hR
  have HSB : Hid (∀ i, i < n → SmallM (R i)) := hs
  have HF : Hid (SoftQ Q w) := hf
  clear hR hs hf
  go_enter Try.func68, Try.ntmps68
  go_wp2
  go_loopw [1, 5] (fun kv i wr => mkI Q w n k 1099514773505 kv i wr) (fun kv i _ => n - (intOf i).toNat)
  case atStart => exact ⟨0, k, Nat.zero_le _, rfl, by omega, by omega, rfl, Wrote.refl _ _⟩
  case round =>
    obtain ⟨m, r, hm, rfl, r0, r1, rfl, hw⟩ := hrel
    by_cases hlt : m < n
    · obtain ⟨R', hR', hs'⟩ := HR.out.wrote HSB.out hw
      rcases hR' with h0 | ⟨b, off, rfl, hq, hR'⟩
      · omega
      obtain ⟨⟨na, nc, c0, hs1⟩, c1, ⟨ba, bc, c2, hs2⟩⟩ := hR' m hlt
      have HSM : Hid (SmallM (R' m)) := hs' m hlt
      have hlt' : (m : Int) < (n : Int) := by omega
      have HF0 : Hid (SoftQ Q wr) := HF.out.on hw
      have HN : Hid (Ints Q .u8 wr na (R' m).nl (R' m).name) := hs1
      have HO : Hid (OpsA Q wr ba (R' m).bl (R' m).body) := hs2
      have HW : Hid (Wrote Q w wr) := hw
      have rb0 : 0 ≤ r := by omega
      have rb1 : r ≤ 4611686018427387904 := by omega
      clear hw hR' hs' hs1 hs2
      go_wp2_with (first | (go_at_call 23; refine (markByteS_shape Q na (R' m).nl nc (R' m).name r _ HN.out HF0.out HSM.out.name rb0 rb1).mono ?_; rintro e W ⟨⟨q, rfl, q0, q1⟩, hW⟩; obtain ⟨bb, x1⟩ := like_bool hW c1; have fx1 := (HF0.out.on hW) b (off + m * 3 + 1) hq; have hV : ∀ v, Wrote Q W (W.setCell ⟨b, off + m * 3 + 1, none⟩ (.bool v)) := fun v => Wrote.setBool hq x1 v; have x2 := like_slice hW c2; have HWV : Hid (∀ v, Wrote Q W (W.setCell ⟨b, off + m * 3 + 1, none⟩ (.bool v))) := hV; have HWW : Hid (Wrote Q wr W) := hW; have HW2 : Hid (Wrote Q w W) := HW.out.trans hW; clear hW hV) | (go_at_call 129; obtain ⟨B2, hB2, hs2⟩ := HO.out.wrote HSM.out.body (HWW.out.trans (HWV.out _)); refine (markOpS_shape Q ba (R' m).bl bc B2 (q + 1) _ hB2 hs2 (HF0.out.on (HWW.out.trans (HWV.out _))) (by omega) (by omega)).mono ?_; rintro e W3 ⟨⟨q3, rfl, q30, q31⟩, hW3⟩; have HW3 : Hid (Wrote Q w W3) := (HW2.out.trans (HWV.out _)).trans hW3; clear hW3 hB2 hs2))
      go_roundw
      case rel => exact ⟨m + 1, q3, by omega, rfl, by omega, by omega, by go_num, HW3.out⟩
      case measure => simp [intOf]; omega
    · obtain rfl : m = n := by omega
      go_wp2
      go_ret
      exact ⟨⟨r, rfl, r0, by omega⟩, hw⟩

/-- A mark of a whole grammar: a number that is not negative; what is not the grammar's is as it was. -/
def MarkG (Q : Nat → Prop) (w : World) (e : Ending) (w' : World) : Prop := (∃ r : Int, e = .returned (.int .i64 r) ∧ 0 ≤ r) ∧ w.heap.size ≤ w'.heap.size ∧ w'.os = w.os ∧ w'.tape = w.tape ∧ w'.output = w.output ∧ ∀ b, b < w.heap.size → ¬ Q b → w'.heap[b]? = w.heap[b]?

set_option maxHeartbeats 2000000 in
theorem markGrammar_shape (Q : Nat → Prop) (ra la : Option Addr) (rc lc : Nat) (g : Gr) (w : World) (hG : GramA Q w ra la g) (hs : SmallG g) (hf : SoftQ Q w) (hq : ∀ b, Q b → b < w.heap.size) :
    Calls Try.prog 22 #[.agg #[.slice ra g.nr rc, .slice la g.nb lc], .int .i64 1] w (MarkG Q w) := by
  have HG : Hid (GramA Q w ra la g) := hG
  have HS : Hid (SmallG g) := hs
  have HF : Hid (∀ o, SoftQ Q (w.alloc o)) := fun o b x hb => (World.frozen?_of_block (a := ⟨b, x, none⟩) (Below.heap_alloc w o b (hq b hb))).trans (hf b x hb)
  have HQ : Hid (∀ b, Q b → b < w.heap.size) := hq
  clear hG hs hf hq
  go_enter Try.func22, Try.ntmps22
  go_wp2_with (first | (go_at_call 67; refine (markRuleS_shape Q ra g.nr rc g.rule 1 _ (HG.out.rules.later (bel1 w _)) (fun i hi => (HS.out.rule i hi).m) HS.out.nr (HF.out _) (by omega) (by omega)).mono ?_; rintro e W ⟨⟨q, rfl, q0, q1⟩, hW⟩; have x1 := like_slice hW (cN (W := w) (c := #[.slice ra g.nr rc, .slice la g.nb lc]) (t := 36) (j := 1) w.heap.size rfl rfl); obtain ⟨L', hL', hs'⟩ := (HG.out.labs.later (bel1 w _)).wrote (fun i hi => (HS.out.lab i hi).m) hW; have HL : Hid (LabsA Q W la g.nb L') := hL'; have HSL : Hid (∀ i, i < g.nb → SmallM (L' i)) := hs'; have HFW : Hid (SoftQ Q W) := (HF.out _).on hW; have HW : Hid (Wrote Q (w.alloc (.cells #[.slice ra g.nr rc, .slice la g.nb lc] 36)) W) := hW; clear hW hL' hs') | (go_at_call 68; refine (markLabelS_shape Q la g.nb lc L' q _ HL.out HSL.out HS.out.nb HFW.out (by omega) (by omega)).mono ?_; rintro e W2 ⟨⟨q2, rfl, q20, q21⟩, hW2⟩; have HW2 : Hid (Wrote Q W W2) := hW2; clear hW2))
  go_ret
  have ht := HW.out.trans HW2.out
  have hsz := ht.size
  simp only [World.size_alloc] at hsz
  refine ⟨⟨q2, rfl, by omega⟩, by omega, ht.os, ht.tape, ht.output, fun b hb hnq => ?_⟩
  exact (ht.block b hnq).trans (Below.heap_alloc w _ b hb)

end Go.Proofs.Ytjndcajblpgjmaa
