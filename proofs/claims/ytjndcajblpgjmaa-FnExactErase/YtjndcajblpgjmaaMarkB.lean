/-
  Walks: marks, number by number: bodies that own their memory.
-/
import Derived.Test.YtjndcajblpgjmaaMarkX
import Derived.Test.YtjndcajblpgjmaaEraG
namespace Go.Proofs.Ytjndcajblpgjmaa
open Go.RowKit
open M (OpD NodeD Gr)
set_option linter.unusedVariables false
set_option linter.unusedSimpArgs false

/-- How many numbers the first i elements take. -/
def cnt (B : Nat → OpD) : Nat → Nat
  | 0 => 0
  | i + 1 => cnt B i + ((B i).sl + 2)
def mkOp (k : Int) (d : OpD) : OpD := ⟨k, d.sl, from_ .i64 (k + 1), k + 1 + d.sl⟩
def mkB (k : Int) (B : Nat → OpD) : Nat → OpD := fun i => mkOp (k + cnt B i) (B i)
theorem cnt_le (B : Nat → OpD) (n : Nat) (h : ∀ i, i < n → (B i).sl ≤ 1048576) : ∀ m, m ≤ n → cnt B m ≤ m * 1048578 := by
  intro m
  induction m with
  | zero => intro _; exact Nat.le_refl _
  | succ m ih => intro hm; have := ih (by omega); have := h m (by omega); rw [cnt]; omega

/-- What lies elsewhere stays. -/
theorem OpC.kept {Qi Qm : Nat → Prop} {wr W2 : World} {b i m : Nat} {u v : Value} {d : OpD} (h : OpC Qi wr b (0 + i * 3) d) (hi : i ≠ m) (hq : ∀ x, Qi x → x ≠ b ∧ ¬ Qm x) (hb : ¬ Qm b) (w2 : Wrote Qm (wr.setCell ⟨b, 0 + m * 3, none⟩ u) W2) :
    OpC Qi (W2.setCell ⟨b, 0 + m * 3 + 2, none⟩ v) b (0 + i * 3) d := by
  have hc : ∀ o, o ≠ 0 + m * 3 → o ≠ 0 + m * 3 + 2 → (W2.setCell ⟨b, 0 + m * 3 + 2, none⟩ v).cell? ⟨b, o, none⟩ = wr.cell? ⟨b, o, none⟩ := fun o h1 h2 => by
    rw [World.cell?_setCell_other _ _ _ _ (fun q => h2 (by injection q with _ q; exact q.symm)), World.cell?_of_block (a := ⟨b, o, none⟩) (w2.block b hb), World.cell?_setCell_other _ _ _ _ (fun q => h1 (by injection q with _ q; exact q.symm))]
  obtain ⟨k0, ⟨a, c, k1, k3⟩, k2⟩ := h
  refine ⟨(hc _ (by omega) (by omega)).trans k0, ⟨a, c, (hc _ (by omega) (by omega)).trans k1, k3.on (fun x hx => ?_)⟩, (hc _ (by omega) (by omega)).trans k2⟩
  rw [Below.heap_setCell _ _ _ _ (hq x hx).1, w2.block x (hq x hx).2, Below.heap_setCell _ _ _ _ (hq x hx).1]

/-- The element itself. -/
theorem OpC.marked {Qm : Nat → Prop} {wr W2 : World} {b m : Nat} {k : Int} {d : OpD} {sa : Option Addr} {sc : Nat} {u : Value} (hu : wr.cell? ⟨b, 0 + m * 3, none⟩ = some u) (h1 : wr.cell? ⟨b, 0 + m * 3 + 1, none⟩ = some (.slice sa d.sl sc)) (h2 : wr.cell? ⟨b, 0 + m * 3 + 2, none⟩ = some (.int .i64 d.arg)) (hb : ¬ Qm b)
    (w2 : Wrote Qm (wr.setCell ⟨b, 0 + m * 3, none⟩ (.int .i64 k)) W2) (hI : Ints Qm .i64 W2 sa d.sl (from_ .i64 (k + 1))) :
    OpC Qm (W2.setCell ⟨b, 0 + m * 3 + 2, none⟩ (.int .i64 (k + 1 + d.sl))) b (0 + m * 3) (mkOp k d) := by
  have hc : ∀ o, W2.cell? ⟨b, o, none⟩ = (wr.setCell ⟨b, 0 + m * 3, none⟩ (.int .i64 k)).cell? ⟨b, o, none⟩ := fun o => World.cell?_of_block (a := ⟨b, o, none⟩) (w2.block b hb)
  have hne : ∀ {x y : Nat}, x ≠ y → (⟨b, x, none⟩ : Addr) ≠ ⟨b, y, none⟩ := fun hxy q => hxy (by injection q)
  refine ⟨?_, ⟨sa, sc, ?_, ?_⟩, ?_⟩
  · rw [World.cell?_setCell_other _ _ _ _ (hne (by omega)), hc]; exact World.cell?_setCell_same _ _ _ hu
  · rw [World.cell?_setCell_other _ _ _ _ (hne (by omega)), hc, World.cell?_setCell_other _ _ _ _ (hne (by omega))]; exact h1
  · exact hI.on (fun x hx => Below.heap_setCell _ _ _ _ (fun (e : x = b) => hb (e ▸ hx)))
  · refine World.cell?_setCell_same (u := .int .i64 d.arg) _ _ _ ?_
    rw [hc, World.cell?_setCell_other _ _ _ _ (hne (by omega))]; exact h2

theorem l_mono {n b hi : Nat} {l : Nat → Nat} (h : ∀ i, i < n → b < l i ∧ l i ≤ l (i + 1) ∧ l (i + 1) ≤ hi) (i d : Nat) (hd : i + d ≤ n) : l i ≤ l (i + d) := by
  induction d with
  | zero => exact Nat.le_refl _
  | succ d ih => exact Nat.le_trans (ih (by omega)) (h (i + d) (by omega)).2.1

def moI (Q : Nat → Prop) (w : World) (b n : Nat) (l : Nat → Nat) (B : Nat → OpD) (k : Int) (kv i : Value) (wr : World) : Prop :=
  ∃ m : Nat, m ≤ n ∧ kv = .int .i64 (k + cnt B m) ∧ i = .int .i64 (m : Int) ∧ Wrote Q w wr ∧ ∀ i, i < n → OpC (fun x => l i ≤ x ∧ x < l (i + 1)) wr b (0 + i * 3) (if i < m then mkB k B i else B i)

theorem mo_step {Q : Nat → Prop} {w wr W2 : World} {b n m hi : Nat} {l : Nat → Nat} {B : Nat → OpD} {k : Int} {sa : Option Addr} {sc : Nat} (hlt : m < n) (hl : ∀ i, i < n → b < l i ∧ l i ≤ l (i + 1) ∧ l (i + 1) ≤ hi) (hq : Q b) (hQ : ∀ x, l m ≤ x ∧ x < l (m + 1) → Q x) (hw : Wrote Q w wr)
    (h : ∀ i, i < n → OpC (fun x => l i ≤ x ∧ x < l (i + 1)) wr b (0 + i * 3) (if i < m then mkB k B i else B i))
    (h0 : wr.cell? ⟨b, 0 + m * 3, none⟩ = some (.int .i64 (B m).kind)) (h1 : wr.cell? ⟨b, 0 + m * 3 + 1, none⟩ = some (.slice sa (B m).sl sc)) (h2 : wr.cell? ⟨b, 0 + m * 3 + 2, none⟩ = some (.int .i64 (B m).arg))
    (w2 : Wrote (fun x => l m ≤ x ∧ x < l (m + 1)) (wr.setCell ⟨b, 0 + m * 3, none⟩ (.int .i64 (k + cnt B m))) W2) (hI : Ints (fun x => l m ≤ x ∧ x < l (m + 1)) .i64 W2 sa (B m).sl (from_ .i64 (k + cnt B m + 1))) :
    moI Q w b n l B k (.int .i64 (k + cnt B (m + 1))) (.int .i64 ((m + 1 : Nat) : Int)) (W2.setCell ⟨b, 0 + m * 3 + 2, none⟩ (.int .i64 (k + cnt B m + 1 + (B m).sl))) := by
  have hb : ¬ (l m ≤ b ∧ b < l (m + 1)) := fun q => by have := (hl m hlt).1; omega
  have d2 : W2.cell? ⟨b, 0 + m * 3 + 2, none⟩ = some (.int .i64 (B m).arg) := by
    rw [World.cell?_of_block (a := ⟨b, 0 + m * 3 + 2, none⟩) (w2.block b hb), World.cell?_setCell_other _ _ _ _ (fun q => by injection q with _ q; omega)]; exact h2
  have w2' : Wrote Q (wr.setCell ⟨b, 0 + m * 3, none⟩ (.int .i64 (k + cnt B m))) W2 := ⟨w2.os, w2.tape, w2.output, w2.size, fun x hx => w2.block x (fun q => hx (hQ x q)), w2.cell, w2.frozen⟩
  refine ⟨m + 1, hlt, rfl, rfl, ((hw.trans (Wrote.setInt hq h0 _)).trans w2').trans (Wrote.setInt hq d2 _), fun i hi' => ?_⟩
  by_cases e : i = m
  · subst e
    rw [if_pos (by omega)]
    exact OpC.marked h0 h1 h2 hb w2 hI
  · have hh := h i hi'
    have e2 : (if i < m + 1 then mkB k B i else B i) = (if i < m then mkB k B i else B i) := by
      by_cases q : i < m
      · rw [if_pos q, if_pos (by omega)]
      · rw [if_neg q, if_neg (by omega)]
    rw [e2]
    refine OpC.kept hh e (fun x hx => ⟨by have := (hl i hi').1; omega, fun q => ?_⟩) hb w2
    by_cases q2 : i < m
    · have := l_mono hl (i + 1) (m - (i + 1)) (by omega)
      rw [show i + 1 + (m - (i + 1)) = m by omega] at this
      omega
    · have := l_mono hl (m + 1) (i - (m + 1)) (by omega)
      rw [show m + 1 + (i - (m + 1)) = i by omega] at this
      omega

set_option maxHeartbeats 2000000 in
theorem markOpS_exact (lo hi : Nat) (a : Option Addr) (n c : Nat) (B : Nat → OpD) (k : Int) (w : World) (hB : OpsO lo hi w a n B) (hs : SmallB n B) (hf : SoftQ (fun x => lo ≤ x ∧ x < hi) w) (h0 : 0 ≤ k) (h1 : k ≤ 4611686018427387904) :
    Calls Try.prog 129 #[.slice a n c, .int .i64 k] w (MarkX (fun w' => OpsO lo hi w' a n (mkB k B)) (fun x => lo ≤ x ∧ x < hi) (k + cnt B n) w) := by
  have hn := hs.1
  have HC : Hid (∀ m, m ≤ n → cnt B m ≤ m * 1048578) := cnt_le B n hs.2
  have HSL : Hid (∀ i, i < n → (B i).sl ≤ 1048576) := hs.2
  have HF : Hid (SoftQ (fun x => lo ≤ x ∧ x < hi) w) := hf
  clear hs hf
  rcases hB with hz | ⟨b, rfl, hb1, hb2, l, hl, hB⟩
  · subst hz
    go_enter Try.func129, Try.ntmps129
    go_wp2
    go_loopw [1, 5] (fun kv i wr => kv = .int .i64 k ∧ i = .int .i64 0 ∧ wr = w) (fun _ _ _ => 0)
    case atStart => exact ⟨rfl, rfl, rfl⟩
    case round =>
      obtain ⟨rfl, rfl, hw⟩ := hrel
      subst hw
      go_wp2
      go_ret
      exact ⟨by simp [cnt], .inl rfl, Wrote.refl _ _⟩
  have HB : Hid (∀ i, i < n → OpC (fun x => l i ≤ x ∧ x < l (i + 1)) w b (0 + i * 3) (B i)) := hB
  have HL : Hid (∀ i, i < n → b < l i ∧ l i ≤ l (i + 1) ∧ l (i + 1) ≤ hi) := hl
  clear hB hl
  go_enter Try.func129, Try.ntmps129
  go_wp2
  go_loopw [1, 5] (fun kv i wr => moI (fun x => lo ≤ x ∧ x < hi) w b n l B k kv i wr) (fun kv i _ => n - (intOf i).toNat)
  case atStart => exact ⟨0, Nat.zero_le _, by simp [cnt], rfl, Wrote.refl _ _, fun i hi => HB.out i hi⟩
  case round =>
    obtain ⟨m, hm, rfl, rfl, hw, hops⟩ := hrel
    by_cases hlt : m < n
    · obtain ⟨c0, ⟨sa, sc, c1, hs1⟩, c2⟩ := hops m hlt
      rw [if_neg (Nat.lt_irrefl m)] at c0 c1 c2 hs1
      have hsl := HSL.out m hlt
      have hcm := HC.out m hm
      have hlt' : (m : Int) < (n : Int) := by omega
      have hlm := HL.out m hlt
      have hf0 := HF.out.on hw
      have HQ : Hid (∀ x, l m ≤ x ∧ x < l (m + 1) → lo ≤ x ∧ x < hi) := fun x hx => ⟨by omega, by omega⟩
      have hbn : ¬ (l m ≤ b ∧ b < l (m + 1)) := fun q => by omega
      have HC0 : Hid (wr.cell? ⟨b, 0 + m * 3, none⟩ = some (.int .i64 (B m).kind)) := c0
      have HC1 : Hid (wr.cell? ⟨b, 0 + m * 3 + 1, none⟩ = some (.slice sa (B m).sl sc)) := c1
      have HC2 : Hid (wr.cell? ⟨b, 0 + m * 3 + 2, none⟩ = some (.int .i64 (B m).arg)) := c2
      have HOPS : Hid (∀ i, i < n → OpC (fun x => l i ≤ x ∧ x < l (i + 1)) wr b (0 + i * 3) (if i < m then mkB k B i else B i)) := hops
      have HW : Hid (Wrote (fun x => lo ≤ x ∧ x < hi) w wr) := hw
      have HI1 : Hid (Ints (fun x => l m ≤ x ∧ x < l (m + 1)) .i64 (wr.setCell ⟨b, 0 + m * 3, none⟩ (.int .i64 (k + cnt B m))) sa (B m).sl (B m).set) := hs1.on (fun x hx => Below.heap_setCell _ _ _ _ (fun (e : x = b) => hbn (e ▸ hx)))
      have HF1 : Hid (SoftQ (fun x => l m ≤ x ∧ x < l (m + 1)) (wr.setCell ⟨b, 0 + m * 3, none⟩ (.int .i64 (k + cnt B m)))) := fun x o hx => by
        rw [World.frozen?_setCell]; exact hf0 x o (HQ.out x hx)
      have fz0 : wr.frozen? ⟨b, m * 3, none⟩ = false := hf0 b (m * 3) ⟨hb1, hb2⟩
      have fz2 : wr.frozen? ⟨b, m * 3 + 2, none⟩ = false := hf0 b (m * 3 + 2) ⟨hb1, hb2⟩
      have D2 : Hid ((wr.setCell ⟨b, 0 + m * 3, none⟩ (.int .i64 (k + cnt B m))).cell? ⟨b, 0 + m * 3 + 2, none⟩ = some (.int .i64 (B m).arg)) := by
        show _ = _
        rw [cell_set_other (by omega)]; exact c2
      have D1 : Hid ((wr.setCell ⟨b, 0 + m * 3, none⟩ (.int .i64 (k + cnt B m))).cell? ⟨b, 0 + m * 3 + 1, none⟩ = some (.slice sa (B m).sl sc)) := by
        show _ = _
        rw [cell_set_other (by omega)]; exact c1
      have rb0 : 0 ≤ k + cnt B m + 1 := by omega
      have rb1 : k + cnt B m + 1 ≤ 4611686018427387904 + 1099513724928 := by omega
      clear hops hs1 hw hf0 c2
      simp only [Nat.zero_add] at HC0 HC1 HC2 HI1 HF1 D2 D1 c0 c1
      go_wp2_with (go_at_call 89; refine (markIntS_exact _ sa (B m).sl sc (B m).set (k + cnt B m + 1) _ HI1.out HF1.out hsl rb0 rb1).mono ?_; rintro e W ⟨rfl, hI, hW⟩; have g2 := (World.cell?_of_block (a := ⟨b, m * 3 + 2, none⟩) (hW.block b hbn)).trans D2.out; have g1 := (World.cell?_of_block (a := ⟨b, m * 3 + 1, none⟩) (hW.block b hbn)).trans D1.out; have fzW : W.frozen? ⟨b, m * 3 + 2, none⟩ = false := by { rw [hW.frozen, World.frozen?_setCell]; exact fz2 }; have HIW : Hid (Ints (fun x => l m ≤ x ∧ x < l (m + 1)) .i64 W sa (B m).sl (from_ .i64 (k + cnt B m + 1))) := hI; have HWW : Hid (Wrote (fun x => l m ≤ x ∧ x < l (m + 1)) (wr.setCell ⟨b, m * 3, none⟩ (.int .i64 (k + cnt B m))) W) := hW; clear hI hW)
      go_roundw
      case rel =>
        have h := mo_step (sa := sa) (sc := sc) hlt HL.out ⟨hb1, hb2⟩ HQ.out HW.out HOPS.out (by rw [Nat.zero_add]; exact HC0.out) (by rw [Nat.zero_add]; exact HC1.out) (by rw [Nat.zero_add]; exact HC2.out) (by rw [Nat.zero_add]; exact HWW.out) HIW.out
        have ev : k + (cnt B m : Int) + 1 + ((B m).sl : Int) + 1 = k + (cnt B (m + 1) : Int) := by rw [cnt]; omega
        have e2 : ((m + 1 : Nat) : Int) = (m : Int) + 1 := by omega
        rw [Nat.zero_add, e2] at h
        rw [ev]
        exact h
      case measure => simp [intOf]; omega
    · obtain rfl : m = n := by omega
      go_wp2
      go_ret
      refine ⟨rfl, .inr ⟨b, rfl, hb1, hb2, l, HL.out, fun i hi' => ?_⟩, hw⟩
      have := hops i hi'
      rw [if_pos hi'] at this
      exact this

end Go.Proofs.Ytjndcajblpgjmaa
