/-
  The machine, plainly; walks: the smaller functions of the specification's machine.
-/
import Derived.Test.YtcmcbemcfjbchabROut
namespace Go.Proofs.Ytcmcbemcfjbchab
open Go.RowKit
open M (OpD NodeD Gr InsD)
set_option linter.unusedVariables false
set_option linter.unusedSimpArgs false

/-! ### Sets of any form -/
/-- The first m pairs hold b. -/
def hasP (S : Nat → Int) (b : Int) : Nat → Bool
  | 0 => false
  | m + 1 => hasP S b m || (decide (S (2 * m) ≤ b) && decide (b ≤ S (2 * m + 1)))
def hasN (n : Nat) (S : Nat → Int) (b : Int) : Bool := hasP S b (n / 2)
theorem hasP_mono (S : Nat → Int) (b : Int) {m n : Nat} (h : m ≤ n) (k : hasP S b m = true) : hasP S b n = true := by
  induction n with
  | zero =>
    obtain rfl : m = 0 := by omega
    exact k
  | succ n ih =>
    by_cases e : m = n + 1
    · subst e; exact k
    · rw [hasP, ih (by omega)]; rfl

def Tells (v : Bool) (w : World) (e : Ending) (w' : World) : Prop := e = .returned (.bool v) ∧ w' = w
def GivesV (v : Value) (w : World) (e : Ending) (w' : World) : Prop := e = .returned v ∧ Below w.heap.size w w'
def TellsB (v : Bool) (w : World) (e : Ending) (w' : World) : Prop := e = .returned (.bool v) ∧ Below w.heap.size w w'

/-! ### The machine -/
/-- A frame: of a choice (0), of a not (1), of a call (2). -/
structure FrD where
  kind : Int
  to : Int
  pos : Nat
  log : Nat
/-- The state of a run; the stack's top is its list's last. -/
structure MSt where
  at_ : Int
  pos : Nat
  st : List FrD
  log : List EvD
  far : Nat
  exp : Nat → Bool
  steps : Nat
  throws : Nat
  done : Bool
  code : Int
  label : Int
def MSt.inNot (s : MSt) : Bool := s.st.any (fun f => f.kind == 1)
def MSt.fin (s : MSt) (c : Int) : MSt := { s with done := true, code := c }
def MSt.push (s : MSt) (f : FrD) (most : Int) : MSt := if (s.st.length : Int) ≥ most then s.fin 3 else { s with st := s.st ++ [f] }
/-- Frames are taken off down to one that is not of a call. -/
def unwind : List FrD → Option (FrD × List FrD)
  | [] => none
  | f :: r => if f.kind = 2 then unwind r else some (f, r)
def MSt.fail (s : MSt) : MSt :=
  match unwind s.st.reverse with
  | none => s.fin 1
  | some (f, r) => { s with st := r.reverse, pos := f.pos, log := s.log.take f.log, at_ := f.to }

/-! ### In memory -/
def FrC (w : World) (b o : Nat) (f : FrD) : Prop := w.cell? ⟨b, o, none⟩ = some (.int .i64 f.kind) ∧ w.cell? ⟨b, o + 1, none⟩ = some (.int .i64 f.to) ∧ w.cell? ⟨b, o + 2, none⟩ = some (.int .i64 (f.pos : Int)) ∧ w.cell? ⟨b, o + 3, none⟩ = some (.int .i64 (f.log : Int))
def FrA (w : World) (a : Option Addr) (l : List FrD) : Prop :=
  l.length = 0 ∨ ∃ b, a = some ⟨b, 0, none⟩ ∧ ∀ i f, l[i]? = some f → FrC w b (i * 4) f
theorem FrA.later {w w' : World} {a : Option Addr} {l : List FrD} (h : FrA w a l) (k : Below w.heap.size w w') : FrA w' a l := by
  rcases h with h | ⟨b, e, h⟩
  · exact .inl h
  · exact .inr ⟨b, e, fun i f hf => ⟨cell_on (h i f hf).1 k, cell_on (h i f hf).2.1 k, cell_on (h i f hf).2.2.1 k, cell_on (h i f hf).2.2.2 k⟩⟩

/-- The specification's state as a value: the stack's, the log's and the expected set's slices. -/
def stV (s : MSt) (ka : Option Addr) (kc : Nat) (la : Option Addr) (lc : Nat) (xa : Option Addr) (xn xc : Nat) : Value :=
  .agg #[.int .i64 s.at_, .int .i64 (s.pos : Int), .slice ka s.st.length kc, .slice la s.log.length lc, .int .i64 (s.far : Int), .slice xa xn xc, .int .i64 (s.steps : Int), .int .i64 (s.throws : Int), .bool s.done, .int .i64 s.code, .int .i64 s.label]

def hasI (w : World) (n : Nat) (S : Nat → Int) (b : Int) (i : Value) (wr : World) : Prop := ∃ k : Nat, 2 * k ≤ n + 1 ∧ i = .int .i64 (2 * (k : Int)) ∧ hasP S b k = false ∧ wr = w
def inI (w : World) (n : Nat) (s : MSt) (i : Value) (wr : World) : Prop := ∃ k : Nat, k ≤ n ∧ i = .int .i64 (k : Int) ∧ (s.st.take k).any (fun f => f.kind == 1) = false ∧ wr = w

set_option maxRecDepth 100000 in
set_option maxHeartbeats 4000000 in
theorem l2has_any (Q : Nat → Prop) (a : Option Addr) (n c : Nat) (S : Nat → Int) (b : Int) (w : World) (hS : Ints Q .i64 w a n S) (hn : n ≤ 1048576) :
    Calls Try.prog 196 #[.slice a n c, .int .i64 b] w (Tells (hasN n S b) w) := by
  have HS : Hid (Ints Q .i64 w a n S) := hS
  clear hS
  go_enter Try.func196, Try.ntmps196
  go_wp2
  go_loopw [5] (fun i wr => hasI w n S b i wr) (fun i _ => n + 1 - (intOf i).toNat)
  case atStart => exact ⟨0, by omega, rfl, rfl, rfl⟩
  case round =>
    obtain ⟨k, hk, rfl, hh, hw⟩ := hrel
    subst wr
    have HH : Hid (hasP S b k = false) := hh
    clear hh
    by_cases hlt : 2 * k + 1 < n
    · rcases HS.out with h0 | ⟨bb, off, rfl, hq, hS⟩
      · omega
      have c0 := hS (2 * k) (by omega)
      have c1 := hS (2 * k + 1) (by omega)
      have hl1 : (2 * (k : Int)) + 1 < (n : Int) := by omega
      have hl2 : (2 * (k : Int)) < (n : Int) := by omega
      obtain ⟨u, hu⟩ : ∃ u, S (2 * k) = u := ⟨_, rfl⟩
      obtain ⟨v, hv⟩ : ∃ v, S (2 * k + 1) = v := ⟨_, rfl⟩
      have HU : Hid (S (2 * k) = u) := hu
      have HV : Hid (S (2 * k + 1) = v) := hv
      rw [hu] at c0
      rw [hv] at c1
      clear hS hu hv
      by_cases q1 : u ≤ b
      · by_cases q2 : b ≤ v
        · have HT : Hid (hasN n S b = true) := hasP_mono S b (m := k + 1) (by omega) (by rw [hasP, HU.out, HV.out, HH.out]; simp [q1, q2])
          go_wp2
          go_ret
          exact ⟨by rw [HT.out]; rfl, rfl⟩
        · have HT : Hid (hasP S b (k + 1) = false) := by show _ = _; rw [hasP, HU.out, HV.out, HH.out]; simp [q2]
          go_wp2
          go_roundw
          case rel => exact ⟨k + 1, by omega, by go_num, HT.out, rfl⟩
          case measure => simp [intOf]; omega
      · have HT : Hid (hasP S b (k + 1) = false) := by show _ = _; rw [hasP, HU.out, HV.out, HH.out]; simp [q1]
        go_wp2
        go_roundw
        case rel => exact ⟨k + 1, by omega, by go_num, HT.out, rfl⟩
        case measure => simp [intOf]; omega
    · have hl1 : ¬ (2 * (k : Int)) + 1 < (n : Int) := by omega
      have HT : Hid (hasN n S b = false) := by
        show hasP S b (n / 2) = false
        by_cases q : hasP S b (n / 2) = true
        · have := hasP_mono S b (show n / 2 ≤ k by omega) q
          rw [HH.out] at this
          cases this
        · simpa using q
      go_wp2
      go_ret
      exact ⟨by rw [HT.out]; rfl, rfl⟩

set_option maxRecDepth 100000 in
set_option maxHeartbeats 4000000 in
theorem l4end_any (s : MSt) (ka la xa : Option Addr) (kc lc xn xc : Nat) (cd : Int) (w : World) :
    Calls Try.prog 102 #[stV s ka kc la lc xa xn xc, .int .i64 cd] w (GivesV (stV (s.fin cd) ka kc la lc xa xn xc) w) := by
  unfold stV
  go_enter Try.func102, Try.ntmps102
  go_wp2
  refine bodyPost_ret (v := stV (s.fin cd) ka kc la lc xa xn xc) ?_ rfl ?_
  · simp [results, Try.f102, go_sem, stV, MSt.fin]
  · exact ⟨rfl, bel2 w _ _⟩

set_option maxRecDepth 100000 in
set_option maxHeartbeats 4000000 in
theorem l4inNot_any (s : MSt) (ka la xa : Option Addr) (kc lc xn xc : Nat) (w : World) (hK : FrA w ka s.st) (hn : s.st.length ≤ 1000) :
    Calls Try.prog 164 #[stV s ka kc la lc xa xn xc] w (TellsB s.inNot w) := by
  have HK : Hid (∀ x, FrA (w.alloc x) ka s.st) := fun x => hK.later (bel1 w x)
  obtain ⟨n, hnn⟩ : ∃ n, s.st.length = n := ⟨_, rfl⟩
  have HN : Hid (s.st.length = n) := hnn
  clear hK
  unfold stV
  rw [hnn] at hn ⊢
  clear hnn
  go_enter Try.func164, Try.ntmps164
  go_wp2
  generalize hX : w.alloc _ = X
  have HX : Hid (Below w.heap.size w X) := hX ▸ bel1 w _
  have HF : Hid (FrA X ka s.st) := hX ▸ HK.out _
  have x2 : X.cell? ⟨w.heap.size, 2, none⟩ = some (.slice ka n kc) := hX ▸ cN w.heap.size rfl rfl
  have lx := lt_of_cell x2
  clear hX HK
  go_loopw [3] (fun i wr => inI X n s i wr) (fun i _ => n - (intOf i).toNat)
  case atStart => exact ⟨0, Nat.zero_le _, rfl, rfl, rfl⟩
  case round =>
    obtain ⟨k, hk, rfl, hh, hw⟩ := hrel
    subst wr
    have HH : Hid ((s.st.take k).any (fun f => f.kind == 1) = false) := hh
    clear hh
    by_cases hlt : k < n
    · rcases HF.out with h0 | ⟨b, rfl, hf⟩
      · have := HN.out; omega
      have hkl : k < s.st.length := by have := HN.out; omega
      obtain ⟨c0, _, _, _⟩ := hf k s.st[k] (List.getElem?_eq_getElem hkl)
      have hlt' : (k : Int) < (n : Int) := by omega
      have HTK : Hid (s.st.take (k + 1) = s.st.take k ++ [s.st[k]]) := by show _ = _; rw [List.take_append_getElem hkl]
      have HIN : Hid (s.st[k] ∈ s.st) := List.getElem_mem hkl
      generalize s.st[k] = fr at *
      clear hf hkl
      cases hq : (fr.kind == 1) with
      | true =>
        have HT : Hid (s.inNot = true) := by
          show s.st.any (fun f => f.kind == 1) = true
          rw [List.any_eq_true]
          exact ⟨fr, HIN.out, hq⟩
        go_wp2
        go_ret
        exact ⟨by rw [HT.out]; rfl, HX.out⟩
      | false =>
        have HT : Hid ((s.st.take (k + 1)).any (fun f => f.kind == 1) = false) := by
          show _ = _
          rw [HTK.out, List.any_append, HH.out]
          simp [hq]
        go_wp2
        go_roundw
        case rel => exact ⟨k + 1, by omega, by go_num, HT.out, rfl⟩
        case measure => simp [intOf]; omega
    · obtain rfl : k = n := by omega
      have HT : Hid (s.inNot = false) := by
        have := HH.out
        rw [List.take_of_length_le (by have := HN.out; omega)] at this
        exact this
      go_wp2
      go_ret
      exact ⟨by rw [HT.out]; rfl, HX.out⟩

end Go.Proofs.Ytcmcbemcfjbchab
