/-
  Walks: outcomes of a run: the same is told to be the same; marks and what is held.
-/
import Derived.Test.YtcmcbemcfjbchabRMem
namespace Go.Proofs.Ytcmcbemcfjbchab
open Go.RowKit
open M (OpD NodeD Gr InsD)
set_option linter.unusedVariables false
set_option linter.unusedSimpArgs false

structure EvD where
  kind : Int
  arg : Int
  pos : Int
def EvC (w : World) (b o : Nat) (d : EvD) : Prop := w.cell? ⟨b, o, none⟩ = some (.int .i64 d.kind) ∧ w.cell? ⟨b, o + 1, none⟩ = some (.int .i64 d.arg) ∧ w.cell? ⟨b, o + 2, none⟩ = some (.int .i64 d.pos)
def EvA (Q : Nat → Prop) (w : World) (a : Option Addr) (n : Nat) (E : Nat → EvD) : Prop :=
  n = 0 ∨ ∃ b off, a = some ⟨b, off, none⟩ ∧ Q b ∧ ∀ i, i < n → EvC w b (off + i * 3) (E i)
theorem EvA.on {Q : Nat → Prop} {w w' : World} {a : Option Addr} {n : Nat} {R : Nat → EvD} (h : EvA Q w a n R) (k : Stay Q w w') : EvA Q w' a n R := by
  rcases h with h | ⟨b, off, e, hq, h⟩
  · exact .inl h
  · have hc : ∀ o, w'.cell? ⟨b, o, none⟩ = w.cell? ⟨b, o, none⟩ := fun o => World.cell?_of_block (a := ⟨b, o, none⟩) (k b hq)
    exact .inr ⟨b, off, e, hq, fun i hi => ⟨(hc _).trans (h i hi).1, (hc _).trans (h i hi).2.1, (hc _).trans (h i hi).2.2⟩⟩
theorem EvA.later {Q : Nat → Prop} {w w' : World} {a : Option Addr} {n : Nat} {R : Nat → EvD} (h : EvA Q w a n R) (k : Below w.heap.size w w') : EvA Q w' a n R := by
  rcases h with h | ⟨b, off, e, hq, h⟩
  · exact .inl h
  · exact .inr ⟨b, off, e, hq, fun i hi => ⟨cell_on (h i hi).1 k, cell_on (h i hi).2.1 k, cell_on (h i hi).2.2 k⟩⟩
theorem EvA.wide {Q Q' : Nat → Prop} {w : World} {a : Option Addr} {n : Nat} {R : Nat → EvD} (h : EvA Q w a n R) (k : ∀ b, Q b → Q' b) : EvA Q' w a n R := by
  rcases h with h | ⟨b, off, e, hq, h⟩
  · exact .inl h
  · exact .inr ⟨b, off, e, k b hq, h⟩

set_option maxHeartbeats 1000000 in
theorem eqEvent_same (d : EvD) (w : World) :
    Calls Try.prog 117 #[.agg #[.int .i64 d.kind, .int .i64 d.arg, .int .i64 d.pos], .agg #[.int .i64 d.kind, .int .i64 d.arg, .int .i64 d.pos]] w (SaysB True w) := by
  have t1 := ine d.kind
  have t2 := ine d.arg
  have t3 := ine d.pos
  go_enter Try.func117, Try.ntmps117
  go_wp2
  go_ret
  exact ⟨⟨true, rfl, iffT trivial⟩, bel2 w _ _⟩

set_option maxHeartbeats 2000000 in
theorem eqEventS_same (Q Q' : Nat → Prop) (a a' : Option Addr) (n c c' : Nat) (R : Nat → EvD) (w : World) (h1 : EvA Q w a n R) (h2 : EvA Q' w a' n R) (hn : n ≤ 1048576) :
    Calls Try.prog 53 #[.slice a n c, .slice a' n c'] w (SaysB True w) := by
  have ht := nne n
  have H1 : Hid (EvA Q w a n R) := h1
  have H2 : Hid (EvA Q' w a' n R) := h2
  clear h1 h2
  go_enter Try.func53, Try.ntmps53
  go_wp2
  go_loopw [5] (fun i wr => ∃ k : Nat, k ≤ n ∧ i = .int .i64 k ∧ Below w.heap.size w wr) (fun i _ => n - (intOf i).toNat)
  case atStart => exact ⟨0, Nat.zero_le _, rfl, Below.refl _ _⟩
  case round =>
    obtain ⟨k, hk, rfl, hbel⟩ := hrel
    by_cases hlt : k < n
    · have h1 := H1.out.later hbel
      rcases h1 with h0 | ⟨b, off, rfl, hq, h1⟩
      · omega
      have h2 := H2.out.later hbel
      rcases h2 with h0 | ⟨b', off', rfl, hq', h2⟩
      · omega
      obtain ⟨c0, c1, c2⟩ := h1 k hlt
      obtain ⟨e0, e1, e2⟩ := h2 k hlt
      have hlt' : (k : Int) < (n : Int) := by omega
      have HBE : Hid (Below w.heap.size w wr) := hbel
      obtain ⟨ι, hne, F, hF, hF'⟩ := family wr
      have f0 : ∀ n, (F n).cell? ⟨b, off + k * 3, none⟩ = some (.int .i64 (R k).kind) := fun n => cell_on c0 (hF n)
      have g0 : ∀ n, (F n).cell? ⟨b', off' + k * 3, none⟩ = some (.int .i64 (R k).kind) := fun n => cell_on e0 (hF n)
      have f1 : ∀ n, (F n).cell? ⟨b, off + k * 3 + 1, none⟩ = some (.int .i64 (R k).arg) := fun n => cell_on c1 (hF n)
      have g1 : ∀ n, (F n).cell? ⟨b', off' + k * 3 + 1, none⟩ = some (.int .i64 (R k).arg) := fun n => cell_on e1 (hF n)
      have f2 : ∀ n, (F n).cell? ⟨b, off + k * 3 + 2, none⟩ = some (.int .i64 (R k).pos) := fun n => cell_on c2 (hF n)
      have g2 : ∀ n, (F n).cell? ⟨b', off' + k * 3 + 2, none⟩ = some (.int .i64 (R k).pos) := fun n => cell_on e2 (hF n)
      have HC : Hid (∃ n, wr.drew = F n) := hF' _ (Below.refl _ wr).drew
      have HF : Hid (∀ n, Below wr.heap.size wr (F n)) := hF
      have HF' : Hid (∀ W, Below wr.heap.size wr W → ∃ n, W = F n) := hF'
      clear hF hF' h1 h2 hbel
      go_wp2_with fail
      refine region_family F (by kernel_rfl) (by kernel_rfl) HC.out ?_
      repeat (go_big_quiet_step (first | (go_at_call 117; exact says_in (HF.out _) HF'.out (iffT trivial) (eqEvent_same (R k) _))))
      refine wpQuiet_nil ?_
      rintro _ ⟨nq, rfl⟩
      go_wp2
      go_roundw
      case rel => exact ⟨k + 1, by omega, by go_num, bel_tr HBE.out (HF.out nq)⟩
      case measure => simp [intOf]; omega
    · obtain rfl : k = n := by omega
      go_wp2
      go_ret
      exact ⟨⟨true, rfl, iffT trivial⟩, hbel⟩

/-! ### Outcomes -/
structure OutD where
  code : Int
  pos : Int
  label : Int
  far : Int
  en : Nat
  ex : Nat → Int
  steps : Int
  throws : Int
  vn : Nat
  ev : Nat → EvD
def outV (o : OutD) (ea : Option Addr) (ec : Nat) (va : Option Addr) (vc : Nat) : Value :=
  .agg #[.int .i64 o.code, .int .i64 o.pos, .int .i64 o.label, .int .i64 o.far, .slice ea o.en ec, .int .i64 o.steps, .int .i64 o.throws, .slice va o.vn vc]
structure OutA (Q : Nat → Prop) (w : World) (o : OutD) (ea va : Option Addr) : Prop where
  ex : Ints Q .i64 w ea o.en o.ex
  ev : EvA Q w va o.vn o.ev
structure SmallO (o : OutD) : Prop where
  en : o.en ≤ 1048576
  vn : o.vn ≤ 1048576
theorem OutA.on {Q : Nat → Prop} {w w' : World} {o : OutD} {ea va : Option Addr} (h : OutA Q w o ea va) (k : Stay Q w w') : OutA Q w' o ea va := ⟨h.ex.on k, h.ev.on k⟩
theorem OutA.later {Q : Nat → Prop} {w w' : World} {o : OutD} {ea va : Option Addr} (h : OutA Q w o ea va) (k : Below w.heap.size w w') : OutA Q w' o ea va := ⟨h.ex.later k, h.ev.later k⟩

set_option maxRecDepth 100000 in
set_option maxHeartbeats 4000000 in
theorem eqOutcome_same (Q Q' : Nat → Prop) (ea ea' va va' : Option Addr) (ec ec' vc vc' : Nat) (o : OutD) (w : World) (h1 : OutA Q w o ea va) (h2 : OutA Q' w o ea' va') (hs : SmallO o) :
    Calls Try.prog 45 #[outV o ea ec va vc, outV o ea' ec' va' vc'] w (SaysB True w) := by
  unfold outV
  have t1 := ine o.code
  have t2 := ine o.pos
  have t3 := ine o.label
  have t4 := ine o.far
  have t5 := ine o.steps
  have t6 := ine o.throws
  have H1 : Hid (OutA Q w o ea va) := h1
  have H2 : Hid (OutA Q' w o ea' va') := h2
  have HS : Hid (SmallO o) := hs
  clear h1 h2 hs
  go_enter Try.func45, Try.ntmps45
  go_wp2_with fail
  refine (eqIntS_same Q Q' ea ea' o.en ec ec' o.ex _ (H1.out.ex.later (bel2 w _ _)) (H2.out.ex.later (bel2 w _ _)) HS.out.en).mono ?_
  rintro e W ⟨⟨r, rfl, hr⟩, hb⟩
  obtain rfl : r = true := hr.2 trivial
  have x5 := cell_on (a := ⟨w.heap.size, 5, none⟩) (v := .int .i64 o.steps) (cellOn _ (cN w.heap.size rfl rfl)) hb
  have x6 := cell_on (a := ⟨w.heap.size, 6, none⟩) (v := .int .i64 o.throws) (cellOn _ (cN w.heap.size rfl rfl)) hb
  have x7 := cell_on (a := ⟨w.heap.size, 7, none⟩) (v := .slice va o.vn vc) (cellOn _ (cN w.heap.size rfl rfl)) hb
  have y5 := cell_on (a := ⟨w.heap.size + 1, 5, none⟩) (v := .int .i64 o.steps) (cN (w.heap.size + 1) (by simp) rfl) hb
  have y6 := cell_on (a := ⟨w.heap.size + 1, 6, none⟩) (v := .int .i64 o.throws) (cN (w.heap.size + 1) (by simp) rfl) hb
  have y7 := cell_on (a := ⟨w.heap.size + 1, 7, none⟩) (v := .slice va' o.vn vc') (cN (w.heap.size + 1) (by simp) rfl) hb
  have HB : Hid (Below w.heap.size w W) := bel_tr (bel2 w _ _) hb
  clear hr hb
  go_wp2_with fail
  refine (eqEventS_same Q Q' va va' o.vn vc vc' o.ev _ (H1.out.ev.later HB.out) (H2.out.ev.later HB.out) HS.out.vn).mono ?_
  rintro e W2 ⟨⟨r, rfl, hr⟩, hb⟩
  obtain rfl : r = true := hr.2 trivial
  have HB2 : Hid (Below w.heap.size w W2) := bel_tr HB.out hb
  clear hr hb
  go_wp2
  go_ret
  exact ⟨⟨true, rfl, iffT trivial⟩, HB2.out⟩

/-! ### Marks -/
def mkE (k : Int) (i : Nat) : EvD := ⟨k + 3 * i, k + 3 * i + 1, k + 3 * i + 1 + 1⟩
/-- Events that may be written. -/
def EvW (Q : Nat → Prop) (w : World) (a : Option Addr) (n : Nat) (E : Nat → EvD) : Prop :=
  n = 0 ∨ ∃ b, a = some ⟨b, 0, none⟩ ∧ Q b ∧ (∀ j, j < n * 3 → w.frozen? ⟨b, j, none⟩ = false) ∧ ∀ i, i < n → EvC w b (i * 3) (E i)
theorem EvW.on {Q : Nat → Prop} {w w' : World} {a : Option Addr} {n : Nat} {R : Nat → EvD} (h : EvW Q w a n R) (k : Stay Q w w') : EvW Q w' a n R := by
  rcases h with h | ⟨b, e, hq, hf, h⟩
  · exact .inl h
  · have hc : ∀ o, w'.cell? ⟨b, o, none⟩ = w.cell? ⟨b, o, none⟩ := fun o => World.cell?_of_block (a := ⟨b, o, none⟩) (k b hq)
    exact .inr ⟨b, e, hq, fun j hj => (World.frozen?_of_block (a := ⟨b, j, none⟩) (k b hq)).trans (hf j hj), fun i hi => ⟨(hc _).trans (h i hi).1, (hc _).trans (h i hi).2.1, (hc _).trans (h i hi).2.2⟩⟩
theorem EvW.ev {Q : Nat → Prop} {w : World} {a : Option Addr} {n : Nat} {R : Nat → EvD} (h : EvW Q w a n R) : EvA Q w a n R := by
  rcases h with h | ⟨b, e, hq, hf, h⟩
  · exact .inl h
  · exact .inr ⟨b, 0, e, hq, fun i hi => by rw [Nat.zero_add]; exact h i hi⟩

def ruE (E : Nat → EvD) (k : Int) (m i : Nat) : EvD := if i < m then mkE k i else E i
def meI (Q : Nat → Prop) (w : World) (b n : Nat) (E : Nat → EvD) (k : Int) (kv i : Value) (wr : World) : Prop :=
  ∃ m : Nat, m ≤ n ∧ kv = .int .i64 (k + 3 * m) ∧ i = .int .i64 (m : Int) ∧ Wrote Q w wr ∧ ∀ i, i < n → EvC wr b (i * 3) (ruE E k m i)
theorem me_step {Q : Nat → Prop} {w wr : World} {b n m : Nat} {E : Nat → EvD} {k : Int} (hlt : m < n) (hq : Q b) (hw : Wrote Q w wr) (h : ∀ i, i < n → EvC wr b (i * 3) (ruE E k m i)) :
    meI Q w b n E k (.int .i64 (k + 3 * ((m + 1 : Nat) : Int))) (.int .i64 ((m + 1 : Nat) : Int)) (set3 wr b (m * 3) (k + 3 * m) (k + 3 * m + 1) (k + 3 * m + 1 + 1)) := by
  obtain ⟨c0, c1, c2⟩ := h m hlt
  have w3 := set3_wrote (Q := Q) (k + 3 * m) (k + 3 * m + 1) (k + 3 * m + 1 + 1) hq c0 c1 c2
  obtain ⟨d0, d1, d2⟩ := set3_cells (k + 3 * m) (k + 3 * m + 1) (k + 3 * m + 1 + 1) c0 c1 c2
  refine ⟨m + 1, hlt, rfl, rfl, hw.trans w3, fun i hi => ?_⟩
  by_cases e : i = m
  · subst e
    have en : ruE E k (i + 1) i = mkE k i := by unfold ruE; rw [if_pos (by omega)]
    rw [en]
    exact ⟨d0, d1, d2⟩
  · have en : ruE E k (m + 1) i = ruE E k m i := by
      unfold ruE
      by_cases q : i < m
      · rw [if_pos q, if_pos (by omega)]
      · rw [if_neg q, if_neg (by omega)]
    rw [en]
    obtain ⟨e0, e1, e2⟩ := h i hi
    refine ⟨?_, ?_, ?_⟩
    · rw [set3_far _ _ _ _ _ _ _ (by omega) (by omega) (by omega)]; exact e0
    · rw [set3_far _ _ _ _ _ _ _ (by omega) (by omega) (by omega)]; exact e1
    · rw [set3_far _ _ _ _ _ _ _ (by omega) (by omega) (by omega)]; exact e2

set_option maxRecDepth 100000 in
set_option maxHeartbeats 4000000 in
theorem markEventS_exact (Q : Nat → Prop) (a : Option Addr) (n c : Nat) (E : Nat → EvD) (k : Int) (w : World) (hA : EvW Q w a n E) (hn : n ≤ 1048576) (h0 : 0 ≤ k) (h1 : k ≤ 1048580) :
    Calls Try.prog 54 #[.slice a n c, .int .i64 k] w (MarkX (fun w' => EvA Q w' a n (mkE k)) Q (k + 3 * n) w) := by
  rcases hA with hz | ⟨b, rfl, hq, hfz, hB⟩
  · subst hz
    go_enter Try.func54, Try.ntmps54
    go_wp2
    go_loopw [1, 5] (fun kv i wr => kv = .int .i64 k ∧ i = .int .i64 0 ∧ wr = w) (fun _ _ _ => 0)
    case atStart => exact ⟨rfl, rfl, rfl⟩
    case round =>
      obtain ⟨rfl, rfl, hw⟩ := hrel
      subst hw
      go_wp2
      go_ret
      exact ⟨by simp, .inl rfl, Wrote.refl _ _⟩
  have HQ : Hid (Q b) := hq
  have HFZ : Hid (∀ j, j < n * 3 → w.frozen? ⟨b, j, none⟩ = false) := hfz
  have HB : Hid (∀ i, i < n → EvC w b (i * 3) (E i)) := hB
  clear hq hfz hB
  go_enter Try.func54, Try.ntmps54
  go_wp2
  go_loopw [1, 5] (fun kv i wr => meI Q w b n E k kv i wr) (fun kv i _ => n - (intOf i).toNat)
  case atStart => exact ⟨0, Nat.zero_le _, by simp, rfl, Wrote.refl _ _, HB.out⟩
  case round =>
    obtain ⟨m, hm, rfl, rfl, hw, hru⟩ := hrel
    by_cases hlt : m < n
    · obtain ⟨c0, c1, c2⟩ := hru m hlt
      have hlt' : (m : Int) < (n : Int) := by omega
      have f0 : wr.frozen? ⟨b, m * 3, none⟩ = false := (hw.frozen _).trans (HFZ.out _ (by omega))
      have f1 : wr.frozen? ⟨b, m * 3 + 1, none⟩ = false := (hw.frozen _).trans (HFZ.out _ (by omega))
      have f2 : wr.frozen? ⟨b, m * 3 + 2, none⟩ = false := (hw.frozen _).trans (HFZ.out _ (by omega))
      have HE : Hid (meI Q w b n E k (.int .i64 (k + 3 * ((m + 1 : Nat) : Int))) (.int .i64 ((m + 1 : Nat) : Int)) (set3 wr b (m * 3) (k + 3 * m) (k + 3 * m + 1) (k + 3 * m + 1 + 1))) := me_step hlt HQ.out hw hru
      clear hw hru
      go_wp2
      go_roundw
      case rel =>
        have h := HE.out
        have ev : k + 3 * ((m + 1 : Nat) : Int) = k + 3 * (m : Int) + 1 + 1 + 1 := by omega
        have e2 : ((m + 1 : Nat) : Int) = (m : Int) + 1 := by omega
        rw [ev, e2] at h
        exact h
      case measure => simp [intOf]; omega
    · obtain rfl : m = n := by omega
      go_wp2
      go_ret
      refine ⟨rfl, .inr ⟨b, 0, rfl, HQ.out, fun i hi => ?_⟩, hw⟩
      have := hru i hi
      have en : ruE E k m i = mkE k i := by unfold ruE; rw [if_pos hi]
      rw [en] at this
      rw [Nat.zero_add]
      exact this

set_option maxRecDepth 100000 in
set_option maxHeartbeats 4000000 in
theorem heldEventS_any (Q : Nat → Prop) (a : Option Addr) (n c : Nat) (k : Int) (w : World) (hA : EvA Q w a n (mkE k)) (hn : n ≤ 1048576) (h0 : 0 ≤ k) (h1 : k ≤ 1048580) :
    Calls Try.prog 111 #[.slice a n c, .int .i64 k] w (HeldIs (k + 3 * n) w) := by
  have HA : Hid (EvA Q w a n (mkE k)) := hA
  clear hA
  go_enter Try.func111, Try.ntmps111
  go_wp2
  go_loopw [1, 5] (fun kv i wr => hoI w n (fun m => k + 3 * m) kv i wr) (fun kv i _ => n - (intOf i).toNat)
  case atStart => exact ⟨0, Nat.zero_le _, by simp, rfl, rfl⟩
  case round =>
    obtain ⟨m, hm, rfl, rfl, hw⟩ := hrel
    subst wr
    by_cases hlt : m < n
    · have hA' := HA.out
      rcases hA' with h0 | ⟨b, off, rfl, hq, hA'⟩
      · omega
      obtain ⟨c0, c1, c2⟩ := hA' m hlt
      have hlt' : (m : Int) < (n : Int) := by omega
      have d0 : w.cell? ⟨b, off + m * 3, none⟩ = some (.int .i64 (k + 3 * m)) := c0
      have d1 : w.cell? ⟨b, off + m * 3 + 1, none⟩ = some (.int .i64 (k + 3 * m + 1)) := c1
      have d2 : w.cell? ⟨b, off + m * 3 + 2, none⟩ = some (.int .i64 (k + 3 * m + 1 + 1)) := c2
      have t0 := ine (k + 3 * (m : Int))
      have t1 := ine (k + 3 * (m : Int) + 1)
      have t2 := ine (k + 3 * (m : Int) + 1 + 1)
      clear hA' c0 c1 c2
      go_wp2
      go_roundw
      case rel => exact ⟨m + 1, by omega, by congr 1; show _ = k + 3 * ((m + 1 : Nat) : Int); omega, by go_num, rfl⟩
      case measure => simp [intOf]; omega
    · obtain rfl : m = n := by omega
      go_wp2
      go_ret
      exact ⟨rfl, rfl⟩

/-- An outcome that owns its memory. -/
structure OutW (Q1 Q2 : Nat → Prop) (w : World) (o : OutD) (ea va : Option Addr) : Prop where
  ex : Ints Q1 .i64 w ea o.en o.ex
  soft : SoftQ Q1 w
  ev : EvW Q2 w va o.vn o.ev
  apart : ∀ b, Q1 b → ¬ Q2 b
  lt : ∀ b, Q1 b ∨ Q2 b → b < w.heap.size
theorem OutW.on {Q1 Q2 : Nat → Prop} {w w' : World} {o : OutD} {ea va : Option Addr} (h : OutW Q1 Q2 w o ea va) (k : Stay (fun b => Q1 b ∨ Q2 b) w w') (hs : w.heap.size ≤ w'.heap.size) : OutW Q1 Q2 w' o ea va :=
  ⟨h.ex.on (fun b hb => k b (.inl hb)), fun b j hb => (World.frozen?_of_block (a := ⟨b, j, none⟩) (k b (.inl hb))).trans (h.soft b j hb), h.ev.on (fun b hb => k b (.inr hb)), h.apart, fun b hb => Nat.lt_of_lt_of_le (h.lt b hb) hs⟩
theorem OutW.out {Q1 Q2 : Nat → Prop} {w : World} {o : OutD} {ea va : Option Addr} (h : OutW Q1 Q2 w o ea va) : OutA (fun b => Q1 b ∨ Q2 b) w o ea va := ⟨h.ex.wide (fun b q => .inl q), h.ev.ev.wide (fun b q => .inr q)⟩
/-- The marked outcome. -/
def mkO (k : Int) (o : OutD) : OutD := { o with ex := from_ k, ev := mkE (k + o.en) }
structure MarkO (Q1 Q2 : Nat → Prop) (o : OutD) (ea va : Option Addr) (w : World) (e : Ending) (w' : World) : Prop where
  val : e = .returned (.int .i64 (1 + o.en + 3 * o.vn))
  lies : OutA (fun b => Q1 b ∨ Q2 b) w' (mkO 1 o) ea va
  size : w.heap.size ≤ w'.heap.size
  os : w'.os = w.os
  tape : w'.tape = w.tape
  output : w'.output = w.output
  block : ∀ b, b < w.heap.size → ¬ (Q1 b ∨ Q2 b) → w'.heap[b]? = w.heap[b]?

set_option maxRecDepth 100000 in
set_option maxHeartbeats 4000000 in
theorem markOutcome_exact (Q1 Q2 : Nat → Prop) (ea va : Option Addr) (ec vc : Nat) (o : OutD) (w : World) (h : OutW Q1 Q2 w o ea va) (hs : SmallO o) :
    Calls Try.prog 46 #[outV o ea ec va vc, .int .i64 1] w (MarkO Q1 Q2 o ea va w) := by
  unfold outV
  have H : Hid (∀ x, OutW Q1 Q2 (w.alloc x) o ea va) := fun x => h.on (fun b hb => (bel1 w x).block b (h.lt b hb)) (bel1 w x).size
  have HL : Hid (∀ b, Q1 b ∨ Q2 b → b < w.heap.size) := h.lt
  have HAP : Hid (∀ b, Q1 b → ¬ Q2 b) := h.apart
  have he := hs.en
  have hv := hs.vn
  clear h hs
  go_enter Try.func46, Try.ntmps46
  go_wp2_with fail
  refine (markIntS_exact Q1 ea o.en ec o.ex 1 _ (H.out _).ex (H.out _).soft he (by omega) (by omega)).mono ?_
  rintro e W ⟨rfl, hI, hW⟩
  have nq : ¬ Q1 w.heap.size := fun q => by have := HL.out _ (.inl q); omega
  have x7 := (World.cell?_of_block (a := ⟨w.heap.size, 7, none⟩) (hW.block w.heap.size nq)).trans (cN (v := .slice va o.vn vc) w.heap.size rfl rfl)
  have hsz := hW.size
  have lw : w.heap.size < W.heap.size := lt_of_cell x7
  have HE : Hid (EvW Q2 W va o.vn o.ev) := (H.out _).ev.on (fun b hb => hW.block b (fun q => HAP.out b q hb))
  have HI : Hid (Ints Q1 .i64 W ea o.en (from_ 1)) := hI
  have HW : Hid (Wrote Q1 _ W) := hW
  clear hI hW nq hsz
  go_wp2_with fail
  refine (markEventS_exact Q2 va o.vn vc o.ev (1 + o.en) _ HE.out hv (by omega) (by omega)).mono ?_
  rintro e W2 ⟨rfl, hE, hW2⟩
  have HE2 : Hid (EvA Q2 W2 va o.vn (mkE (1 + o.en))) := hE
  have HW2 : Hid (Wrote Q2 W W2) := hW2
  clear hE hW2
  go_wp2
  go_ret
  have k1 := HW.out
  have k2 := HW2.out
  refine ⟨rfl, ⟨(HI.out.on (fun b hb => k2.block b (fun q => HAP.out b hb q))).wide (fun b q => .inl q), HE2.out.wide (fun b q => .inr q)⟩, by rw [k2.size, k1.size]; exact (bel1 w _).size, k2.os.trans (k1.os.trans (bel1 w _).os), k2.tape.trans (k1.tape.trans (bel1 w _).tape), k2.output.trans (k1.output.trans (bel1 w _).output), fun b hb hn => ?_⟩
  rw [k2.block b (fun q => hn (.inr q)), k1.block b (fun q => hn (.inl q))]
  exact (bel1 w _).block b hb

set_option maxRecDepth 100000 in
set_option maxHeartbeats 4000000 in
theorem heldOutcome_any (Q : Nat → Prop) (ea va : Option Addr) (ec vc : Nat) (o : OutD) (w : World) (h : OutA Q w (mkO 1 o) ea va) (hs : SmallO o) :
    Calls Try.prog 47 #[outV o ea ec va vc, .int .i64 1] w (fun e w' => e = .returned (.int .i64 (1 + o.en + 3 * o.vn)) ∧ Below w.heap.size w w') := by
  unfold outV
  have H1 : Hid (∀ x, Ints Q .i64 (w.alloc x) ea o.en (from_ 1)) := fun x => h.ex.later (bel1 w x)
  have H2 : Hid (∀ x, EvA Q (w.alloc x) va o.vn (mkE (1 + o.en))) := fun x => h.ev.later (bel1 w x)
  have he := hs.en
  have hv := hs.vn
  have n1 : ¬ (1 + (o.en : Int) < 0) := by omega
  have n2 : ¬ (1 + (o.en : Int) + 3 * (o.vn : Int) < 0) := by omega
  clear h hs
  go_enter Try.func47, Try.ntmps47
  go_wp2_with fail
  refine (heldIntS_any Q ea o.en ec 1 _ (H1.out _) he (by omega) (by omega)).mono ?_
  rintro e W ⟨rfl, hW⟩
  subst W
  go_wp2_with fail
  refine (heldEventS_any Q va o.vn vc (1 + o.en) _ (H2.out _) hv (by omega) (by omega)).mono ?_
  rintro e W ⟨rfl, hW⟩
  subst W
  go_wp2
  go_ret
  exact ⟨rfl, bel1 w _⟩

end Go.Proofs.Ytcmcbemcfjbchab
