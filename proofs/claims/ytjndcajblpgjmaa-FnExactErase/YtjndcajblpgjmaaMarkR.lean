/-
  Walks: marks, number by number: rules that own their memory.
-/
import Derived.Test.YtjndcajblpgjmaaMarkB
namespace Go.Proofs.Ytjndcajblpgjmaa
open Go.RowKit
open M (OpD NodeD Gr)
set_option linter.unusedVariables false
set_option linter.unusedSimpArgs false

def cntR (R : Nat → NodeD) : Nat → Nat
  | 0 => 0
  | i + 1 => cntR R i + ((R i).nl + cnt (R i).body (R i).bl)
def mkN (k : Int) (d : NodeD) : NodeD := ⟨d.nl, from_ .u8 k, d.has, d.bl, mkB (k + d.nl) d.body⟩
def mkR (k : Int) (R : Nat → NodeD) : Nat → NodeD := fun i => mkN (k + cntR R i) (R i)
theorem cntR_le (R : Nat → NodeD) (n : Nat) (h : ∀ i, i < n → SmallM (R i)) : ∀ m, m ≤ n → cntR R m ≤ m * 1099514773504 := by
  intro m
  induction m with
  | zero => intro _; exact Nat.le_refl _
  | succ m ih =>
    intro hm
    have h1 := ih (by omega)
    have h2 := h m (by omega)
    have h3 := cnt_le (R m).body (R m).bl h2.body.2 (R m).bl (Nat.le_refl _)
    have h4 := h2.body.1
    have h5 := h2.name
    rw [cntR]
    omega

/-- The blocks of the rules. -/
def InS (s : Nat → Seat) (n : Nat) (x : Nat) : Prop := ∃ i, i < n ∧ (s i).l ≤ x ∧ x < (s i).h

def ruN (R : Nat → NodeD) (k : Int) (m i : Nat) : NodeD := if i < m then mkR k R i else R i
def ruL (s : Nat → Seat) (R : Nat → NodeD) (k : Int) (n m : Nat) (wr : World) : Prop :=
  ∀ i, i < n → Ints (fun b => (s i).l ≤ b ∧ b < (s i).mid) .u8 wr (s i).na (R i).nl (ruN R k m i).name ∧ OpsO (s i).mid (s i).h wr (s i).ba (R i).bl (ruN R k m i).body
def mrI (s : Nat → Seat) (R : Nat → NodeD) (w : World) (n : Nat) (k : Int) (kv i : Value) (wr : World) : Prop :=
  ∃ m : Nat, m ≤ n ∧ kv = .int .i64 (k + cntR R m) ∧ i = .int .i64 (m : Int) ∧ Wrote (InS s n) w wr ∧ ruL s R k n m wr

theorem mr_step {B : Nat} {s : Nat → Seat} {R : Nat → NodeD} {w wr W1 W2 : World} {n m : Nat} {k : Int} (hlt : m < n) (lo : ∀ i, i < n → B < (s i).l ∧ (s i).l ≤ (s i).mid ∧ (s i).mid ≤ (s i).h) (ap : ∀ i j, i < j → j < n → (s i).h ≤ (s j).l) (hw : Wrote (InS s n) w wr) (h : ruL s R k n m wr)
    (w1 : Wrote (fun b => (s m).l ≤ b ∧ b < (s m).mid) wr W1) (hI : Ints (fun b => (s m).l ≤ b ∧ b < (s m).mid) .u8 W1 (s m).na (R m).nl (from_ .u8 (k + cntR R m)))
    (w2 : Wrote (fun b => (s m).mid ≤ b ∧ b < (s m).h) W1 W2) (hO : OpsO (s m).mid (s m).h W2 (s m).ba (R m).bl (mkB (k + cntR R m + (R m).nl) (R m).body)) :
    mrI s R w n k (.int .i64 (k + cntR R (m + 1))) (.int .i64 ((m + 1 : Nat) : Int)) W2 := by
  have lm := lo m hlt
  have w1' : Wrote (InS s n) wr W1 := ⟨w1.os, w1.tape, w1.output, w1.size, fun x hx => w1.block x (fun q => hx ⟨m, hlt, by omega, by omega⟩), w1.cell, w1.frozen⟩
  have w2' : Wrote (InS s n) W1 W2 := ⟨w2.os, w2.tape, w2.output, w2.size, fun x hx => w2.block x (fun q => hx ⟨m, hlt, by omega, by omega⟩), w2.cell, w2.frozen⟩
  refine ⟨m + 1, hlt, rfl, rfl, (hw.trans w1').trans w2', fun i hi => ?_⟩
  by_cases e : i = m
  · subst e
    have en : ruN R k (i + 1) i = mkR k R i := by unfold ruN; rw [if_pos (by omega)]
    rw [en]
    exact ⟨hI.on (fun x hx => w2.block x (fun q => by omega)), hO⟩
  · have en : ruN R k (m + 1) i = ruN R k m i := by
      unfold ruN
      by_cases q : i < m
      · rw [if_pos q, if_pos (by omega)]
      · rw [if_neg q, if_neg (by omega)]
    rw [en]
    have li := lo i hi
    have far : ∀ x, (s i).l ≤ x ∧ x < (s i).h → W2.heap[x]? = wr.heap[x]? := fun x hx => by
      have hno : ¬ ((s m).l ≤ x ∧ x < (s m).h) := fun q => by
        by_cases q2 : i < m
        · have := ap i m q2 hlt; omega
        · have := ap m i (by omega) hi; omega
      rw [w2.block x (fun q => hno ⟨by omega, q.2⟩), w1.block x (fun q => hno ⟨q.1, by omega⟩)]
    exact ⟨(h i hi).1.on (fun x hx => far x ⟨hx.1, by omega⟩), (h i hi).2.on (fun x hx => far x ⟨by omega, hx.2⟩)⟩

set_option maxHeartbeats 4000000 in
theorem markRuleS_exact (B g n c : Nat) (s : Nat → Seat) (R : Nat → NodeD) (k : Int) (w : World) (hg : ¬ InS s n g) (hh : ∀ i, i < n → w.cell? ⟨g, i * 2, none⟩ = some (.slice (s i).na (R i).nl (s i).nc) ∧ w.cell? ⟨g, i * 2 + 1, none⟩ = some (.slice (s i).ba (R i).bl (s i).bc)) (seat : Seats B w R s n)
    (hs : ∀ i, i < n → SmallM (R i)) (hn : n ≤ 1048576) (hf : SoftQ (InS s n) w) (h0 : 0 ≤ k) (h1 : k ≤ 4) :
    Calls Try.prog 67 #[.slice (some ⟨g, 0, none⟩) n c, .int .i64 k] w (MarkX (fun w' => Seats B w' (mkR k R) s n) (InS s n) (k + cntR R n) w) := by
  have HC : Hid (∀ m, m ≤ n → cntR R m ≤ m * 1099514773504) := cntR_le R n hs
  have HS : Hid (∀ i, i < n → SmallM (R i)) := hs
  have HF : Hid (SoftQ (InS s n) w) := hf
  have HH : Hid (∀ i, i < n → w.cell? ⟨g, i * 2, none⟩ = some (.slice (s i).na (R i).nl (s i).nc) ∧ w.cell? ⟨g, i * 2 + 1, none⟩ = some (.slice (s i).ba (R i).bl (s i).bc)) := hh
  have SE : Hid (Seats B w R s n) := seat
  have HNG : Hid (¬ InS s n g) := hg
  have LO : Hid (∀ i, i < n → B < (s i).l ∧ (s i).l ≤ (s i).mid ∧ (s i).mid ≤ (s i).h) := fun i hi => ⟨(seat.lo i hi).1, (seat.lo i hi).2.1, (seat.lo i hi).2.2.1⟩
  clear hs hf hh seat hg
  go_enter Try.func67, Try.ntmps67
  go_wp2
  go_loopw [1, 5] (fun kv i wr => mrI s R w n k kv i wr) (fun kv i _ => n - (intOf i).toNat)
  case atStart => exact ⟨0, Nat.zero_le _, by simp [cntR], rfl, Wrote.refl _ _, fun i hi => ⟨SE.out.nm i hi, SE.out.bd i hi⟩⟩
  case round =>
    obtain ⟨m, hm, rfl, rfl, hw, hru⟩ := hrel
    by_cases hlt : m < n
    · obtain ⟨c0, c1⟩ := HH.out m hlt
      replace c0 := (World.cell?_of_block (a := ⟨g, m * 2, none⟩) (hw.block g HNG.out)).trans c0
      replace c1 := (World.cell?_of_block (a := ⟨g, m * 2 + 1, none⟩) (hw.block g HNG.out)).trans c1
      obtain ⟨hI, hO⟩ := hru m hlt
      have en : ruN R k m m = R m := by unfold ruN; rw [if_neg (Nat.lt_irrefl m)]
      rw [en] at hI hO
      have HSM : Hid (SmallM (R m)) := HS.out m hlt
      have hlt' : (m : Int) < (n : Int) := by omega
      have lm := LO.out m hlt
      have hcm := HC.out m hm
      have hnl := HSM.out.name
      have hf0 := HF.out.on hw
      have HI : Hid (Ints (fun b => (s m).l ≤ b ∧ b < (s m).mid) .u8 wr (s m).na (R m).nl (R m).name) := hI
      have HO : Hid (OpsO (s m).mid (s m).h wr (s m).ba (R m).bl (R m).body) := hO
      have HF1 : Hid (SoftQ (fun b => (s m).l ≤ b ∧ b < (s m).mid) wr) := fun x o hx => hf0 x o ⟨m, hlt, hx.1, by omega⟩
      have HF2 : Hid (SoftQ (fun b => (s m).mid ≤ b ∧ b < (s m).h) wr) := fun x o hx => hf0 x o ⟨m, hlt, by omega, hx.2⟩
      have HG1 : Hid (¬ ((s m).l ≤ g ∧ g < (s m).mid)) := fun q => HNG.out ⟨m, hlt, q.1, by omega⟩
      have HW : Hid (Wrote (InS s n) w wr) := hw
      have HRU : Hid (ruL s R k n m wr) := hru
      have rb0 : 0 ≤ k + cntR R m := by omega
      have rb1 : k + cntR R m ≤ 4611686018427387904 := by omega
      have rb2 : 0 ≤ k + cntR R m + (R m).nl := by omega
      have rb3 : k + cntR R m + (R m).nl ≤ 4611686018427387904 := by omega
      clear hw hru hI hO hf0 en
      go_wp2_with (first | (go_at_call 23; refine (markByteS_exact _ (s m).na (R m).nl (s m).nc (R m).name (k + cntR R m) _ HI.out HF1.out hnl rb0 rb1).mono ?_; rintro e W1 ⟨rfl, hI1, hW1⟩; have x1 := (World.cell?_of_block (a := ⟨g, m * 2 + 1, none⟩) (hW1.block g HG1.out)).trans c1; have x0 := (World.cell?_of_block (a := ⟨g, m * 2, none⟩) (hW1.block g HG1.out)).trans c0; have HO1 : Hid (OpsO (s m).mid (s m).h W1 (s m).ba (R m).bl (R m).body) := HO.out.on (fun x hx => hW1.block x (fun q => by omega)); have HF3 : Hid (SoftQ (fun b => (s m).mid ≤ b ∧ b < (s m).h) W1) := HF2.out.on hW1; have HI1 : Hid (Ints (fun b => (s m).l ≤ b ∧ b < (s m).mid) .u8 W1 (s m).na (R m).nl (from_ .u8 (k + cntR R m))) := hI1; have HW1 : Hid (Wrote (fun b => (s m).l ≤ b ∧ b < (s m).mid) wr W1) := hW1; clear hI1 hW1) | (go_at_call 129; refine (markOpS_exact (s m).mid (s m).h (s m).ba (R m).bl (s m).bc (R m).body (k + cntR R m + (R m).nl) _ HO1.out HSM.out.body HF3.out rb2 rb3).mono ?_; rintro e W2 ⟨rfl, hO2, hW2⟩; have HE : Hid (mrI s R w n k (.int .i64 (k + cntR R (m + 1))) (.int .i64 ((m + 1 : Nat) : Int)) W2) := mr_step hlt LO.out SE.out.ap HW.out HRU.out HW1.out HI1.out hW2 hO2; clear hO2 hW2))
      go_roundw
      case rel =>
        have h := HE.out
        have ev : k + (cntR R m : Int) + ((R m).nl : Int) + (cnt (R m).body (R m).bl : Int) = k + (cntR R (m + 1) : Int) := by rw [cntR]; omega
        have e2 : ((m + 1 : Nat) : Int) = (m : Int) + 1 := by omega
        rw [e2] at h
        rw [ev]
        exact h
      case measure => simp [intOf]; omega
    · obtain rfl : m = n := by omega
      go_wp2
      go_ret
      refine ⟨rfl, ⟨fun i hi => ?_, SE.out.ap, fun i hi => ?_, fun i hi => ?_⟩, hw⟩
      · rw [hw.size]; exact SE.out.lo i hi
      · have := (hru i hi).1
        have en : ruN R k m i = mkR k R i := by unfold ruN; rw [if_pos hi]
        rw [en] at this
        exact this
      · have := (hru i hi).2
        have en : ruN R k m i = mkR k R i := by unfold ruN; rw [if_pos hi]
        rw [en] at this
        exact this

end Go.Proofs.Ytjndcajblpgjmaa
