import Derived.Test.YteoddjobpmmgeaaGreatT01
import Derived.Test.YteoddjobpmmgeaaGreatT43
import Derived.Maps.Own
import Derived.Maps.OwnOps
import Derived.Maps.OwnSet
import Derived.Maps.Views
import Derived.OwnWalk
import Derived.StringKeys
set_option linter.unusedVariables false
set_option linter.unusedSimpArgs false
namespace Go.Proofs.YteoddjobpmmgeaaGreat
section
open Go.RowKit
theorem NameOK_iff (n : Nat) (T : Nat → Int) (h0 : 0 < n) (h1 : n ≤ 32) (h2 : M.Letter (T 0)) : M.NameOK n T ↔ ∀ i, i < n → M.Letter (T i) ∨ M.Digit (T i) :=
  ⟨fun q => q.2.1, fun q => ⟨h1, q, h0, h2⟩⟩
set_option maxHeartbeats 1000000 in
theorem l2name_any (Q : Nat → Prop) (a : Option Addr) (n c : Nat) (T : Nat → Int) (w : World) (hT : Ints Q .u8 w a n T) (hb : ∀ i, i < n → 0 ≤ T i ∧ T i ≤ 255) (hn : n ≤ 1048576) :
    Calls Tryz.prog 37 #[.slice a n c] w (Says (M.NameOK n T) w) := by
  by_cases h0 : n = 0
  · subst h0
    go_enter Tryz.func37, Tryz.ntmps37
    go_wp2
    go_ret
    exact ⟨⟨false, rfl, iffF fun q => by have := q.2.2.1; omega⟩, rfl⟩
  have t1 : ¬ (n : Int) < 1 := by omega
  by_cases h32 : 32 < n
  · have t2 : (32 : Int) < n := by omega
    go_enter Tryz.func37, Tryz.ntmps37
    go_wp2
    go_ret
    exact ⟨⟨false, rfl, iffF fun q => by have := q.1; omega⟩, rfl⟩
  have t2 : ¬ (32 : Int) < n := by omega
  rcases hT with h0' | ⟨b, off, rfl, hq, hT⟩
  · omega
  have hc0 := hT 0 (by omega)
  rw [Nat.add_zero] at hc0
  obtain ⟨y0, y1⟩ := hb 0 (by omega)
  have hpos : (0 : Int) < (n : Int) := by omega
  rcases Classical.em (¬ M.Letter (T 0)) with hl0 | hl0
  · have HL : Hid (¬ M.Letter (T 0)) := hl0
    clear hl0
    go_enter Tryz.func37, Tryz.ntmps37
    go_wp2_with (go_at_call 51; refine (l2letter_any (T 0) _ y0 y1).mono ?_; rintro e W ⟨⟨r, rfl, hr⟩, hw⟩; subst W; obtain rfl : r = false := by { cases r; rfl; exact absurd (hr.1 rfl) HL.out }; clear hr)
    go_ret
    exact ⟨⟨false, rfl, iffF fun q => HL.out q.2.2.2⟩, rfl⟩
  have HL0 : Hid (M.Letter (T 0)) := Classical.not_not.1 hl0
  clear hl0
  go_enter Tryz.func37, Tryz.ntmps37
  go_wp2_with (go_at_call 51; refine (l2letter_any (T 0) _ y0 y1).mono ?_; rintro e W ⟨⟨r, rfl, hr⟩, hw⟩; subst W; obtain rfl : r = true := hr.2 HL0.out; clear hr)
  go_loopw [3] (fun i wr => ∃ k : Nat, k ≤ n ∧ i = .int .i64 k ∧ wr = w ∧ ∀ j, j < k → M.Letter (T j) ∨ M.Digit (T j)) (fun i _ => n - (intOf i).toNat)
  case atStart => exact ⟨0, Nat.zero_le _, rfl, rfl, fun j hj => absurd hj (Nat.not_lt_zero _)⟩
  case round =>
    obtain ⟨k, hk, rfl, rfl, hall⟩ := hrel
    have HA : Hid (∀ j, j < k → M.Letter (T j) ∨ M.Digit (T j)) := hall
    clear hall
    by_cases hlt : k < n
    · have hc1 := hT k hlt
      obtain ⟨x0, x1⟩ := hb k hlt
      by_cases hl : M.Letter (T k)
      · have HL : Hid (M.Letter (T k)) := hl
        clear hl
        go_wp2_with (go_at_call 51; refine (l2letter_any (T k) _ x0 x1).mono ?_; rintro e W ⟨⟨r, rfl, hr⟩, hw⟩; subst W; obtain rfl : r = true := hr.2 HL.out; clear hr)
        go_roundw
        case rel => exact ⟨k + 1, by omega, by go_num, by trivial, fun j hj => if e : j = k then e ▸ .inl HL.out else HA.out j (by omega)⟩
        case measure => simp [intOf]; omega
      have HL : Hid (¬ M.Letter (T k)) := hl
      clear hl
      by_cases hd : M.Digit (T k)
      · have HD : Hid (M.Digit (T k)) := hd
        clear hd
        go_wp2_with (first | (go_at_call 51; refine (l2letter_any (T k) _ x0 x1).mono ?_; rintro e W ⟨⟨r, rfl, hr⟩, hw⟩; subst W; obtain rfl : r = false := by { cases r; rfl; exact absurd (hr.1 rfl) HL.out }; clear hr) | (go_at_call 52; refine (l2digit_any (T k) _ x0 x1).mono ?_; rintro e W ⟨⟨r, rfl, hr⟩, hw⟩; subst W; obtain rfl : r = true := hr.2 HD.out; clear hr))
        go_roundw
        case rel => exact ⟨k + 1, by omega, by go_num, by trivial, fun j hj => if e : j = k then e ▸ .inr HD.out else HA.out j (by omega)⟩
        case measure => simp [intOf]; omega
      · have HD : Hid (¬ M.Digit (T k)) := hd
        clear hd
        go_wp2_with (first | (go_at_call 51; refine (l2letter_any (T k) _ x0 x1).mono ?_; rintro e W ⟨⟨r, rfl, hr⟩, hw⟩; subst W; obtain rfl : r = false := by { cases r; rfl; exact absurd (hr.1 rfl) HL.out }; clear hr) | (go_at_call 52; refine (l2digit_any (T k) _ x0 x1).mono ?_; rintro e W ⟨⟨r, rfl, hr⟩, hw⟩; subst W; obtain rfl : r = false := by { cases r; rfl; exact absurd (hr.1 rfl) HD.out }; clear hr))
        go_ret
        exact ⟨⟨false, rfl, iffF fun q => (q.2.1 k hlt).elim HL.out HD.out⟩, rfl⟩
    · obtain rfl : k = n := by omega
      go_wp2
      go_ret
      exact ⟨⟨true, rfl, iffT ((NameOK_iff _ _ (by omega) (by omega) HL0.out).2 HA.out)⟩, rfl⟩
end
section
open Go.RowKit Go.Maps
open M (OpD NodeD Gr)
theorem zero3 (w : World) : (zeroValue 3).run Tryz.prog w = .ok (.int .i64 0) w := by kernel_rfl
def NamesOK (g : Gr) : Prop :=
  (∀ i, i < g.nr → M.NameB (g.rule i).nl (g.rule i).name ∧ ∀ j, j < i → ¬ M.SameName (g.rule i) (g.rule j)) ∧
  (∀ i, i < g.nb → M.NameB (g.lab i).nl (g.lab i).name ∧ (0 < i → M.LessName (g.lab (i - 1)) (g.lab i)))
def HasNames (D : DataW Unit) (R : Nat → NodeD) (k : Nat) : Prop := ∀ l : List UInt8, (Maps.has D (.string l) = true ↔ ∃ j, j < k ∧ u8s (R j).nl (R j).name = l)
theorem HasNames.start (R : Nat → NodeD) : HasNames (.map []) R 0 := fun l => ⟨fun h => by simp [Maps.has] at h, fun ⟨j, hj, _⟩ => absurd hj (Nat.not_lt_zero _)⟩
theorem HasNames.step {D : DataW Unit} {R : Nat → NodeD} {k : Nat} (h : HasNames D R k) (hD : IsMap D) (d : DataW Unit) : HasNames (D.put (.string (u8s (R k).nl (R k).name)) d) R (k + 1) := fun l => by
  by_cases e : u8s (R k).nl (R k).name = l
  · subst e
    rw [has_put_same hD (by trivial)]
    exact ⟨fun _ => ⟨k, by omega, rfl⟩, fun _ => rfl⟩
  · rw [has_put_other (by intro q; injection q with q; exact e q.symm), h l]
    constructor
    · rintro ⟨j, hj, q⟩; exact ⟨j, by omega, q⟩
    · rintro ⟨j, hj, q⟩
      refine ⟨j, ?_, q⟩
      by_cases ej : j = k
      · subst ej; exact absurd q e
      · omega
theorem same_iff (a b : NodeD) (ha : Byt a.nl a.name) (hb : Byt b.nl b.name) : u8s a.nl a.name = u8s b.nl b.name ↔ M.SameName a b := u8s_eq _ _ _ _ ha hb
end
section
open Go.RowKit
open M (OpD NodeD Gr)
theorem sumN_split (g : Gr) : ∀ m, sumN g (g.nr + m) = M.sum (fun i => (g.rule i).bl) g.nr + M.sum (fun i => (g.lab i).bl) m
  | 0 => by
    have : ∀ n, n ≤ g.nr → sumN g n = M.sum (fun i => (g.rule i).bl) n := by
      intro n hn
      induction n with
      | zero => rfl
      | succ n ih => rw [sumN_succ, ih (by omega), M.sum, nd_rule g (by omega)]
    rw [Nat.add_zero, this _ (Nat.le_refl _)]; rfl
  | m + 1 => by
    have := sumN_split g m
    rw [← Nat.add_assoc, sumN_succ, this, nd_lab, M.sum, Nat.add_assoc]
theorem sumN_all (g : Gr) : sumN g (g.nr + g.nb) = M.ops g := sumN_split g g.nb
theorem nd_all {g : Gr} {P : NodeD → Prop} : (∀ p, p < g.nr + g.nb → P (nd g p)) ↔ (∀ i, i < g.nr → P (g.rule i)) ∧ ∀ i, i < g.nb → P (g.lab i) := by
  constructor
  · intro h
    exact ⟨fun i hi => nd_rule g hi ▸ h i (by omega), fun i hi => nd_lab g i ▸ h (g.nr + i) (by omega)⟩
  · rintro ⟨h1, h2⟩ p hp
    unfold nd
    split
    · exact h1 p (by omega)
    · exact h2 _ (by omega)
theorem over_not (g : Gr) : ¬ Over g ↔ g.nr ≤ 100 ∧ g.nb ≤ 100 ∧ M.ops g ≤ 2000 ∧ (∀ i, i < g.nr → (g.rule i).nl ≤ 32) ∧ ∀ i, i < g.nb → (g.lab i).nl ≤ 32 := by
  have hn := nd_all (g := g) (P := fun d => d.nl ≤ 32)
  unfold Over
  constructor
  · intro h
    have h1 : g.nr ≤ 100 := Nat.le_of_not_lt fun q => h (.inl q)
    have h2 : g.nb ≤ 100 := Nat.le_of_not_lt fun q => h (.inr (.inl q))
    have h3 : ∀ p, p < g.nr + g.nb → ¬ (2000 < sumN g (p + 1) ∨ 32 < (nd g p).nl) := fun p hp q => h (.inr (.inr ⟨p, hp, q⟩))
    refine ⟨h1, h2, ?_, hn.1 fun p hp => Nat.le_of_not_lt fun q => h3 p hp (.inr q)⟩
    rw [← sumN_all]
    by_cases e : g.nr + g.nb = 0
    · rw [e]; exact Nat.zero_le _
    · have := h3 (g.nr + g.nb - 1) (by omega)
      rw [show g.nr + g.nb - 1 + 1 = g.nr + g.nb by omega] at this
      omega
  · rintro ⟨h1, h2, h3, h4⟩ (q | q | ⟨p, hp, q | q⟩)
    · omega
    · omega
    · have := M.sum_le (fun i => (nd g i).bl) (show p + 1 ≤ g.nr + g.nb by omega)
      have e : M.sum (fun i => (nd g i).bl) (g.nr + g.nb) = M.ops g := sumN_all g
      have e2 : M.sum (fun i => (nd g i).bl) (p + 1) = sumN g (p + 1) := rfl
      omega
    · have := hn.2 h4 p hp
      omega
theorem meant_iff (g : Gr) (i : Nat) : ThrownTo g (g.nr + g.nb) i ↔ (∃ j, j < g.nr ∧ M.Throws (g.rule j).bl (g.rule j).body i) ∨ ∃ j, j < g.nb ∧ M.Throws (g.lab j).bl (g.lab j).body i := by
  constructor
  · rintro ⟨q, hq, h⟩
    by_cases e : q < g.nr
    · rw [nd_rule g e] at h
      exact .inl ⟨q, e, h⟩
    · obtain ⟨m, rfl⟩ : ∃ m, q = g.nr + m := ⟨q - g.nr, by omega⟩
      rw [nd_lab] at h
      exact .inr ⟨m, by omega, h⟩
  · rintro (⟨j, hj, h⟩ | ⟨j, hj, h⟩)
    · exact ⟨j, by omega, by rw [nd_rule g hj]; exact h⟩
    · exact ⟨g.nr + j, by omega, by rw [nd_lab]; exact h⟩
theorem valid_iff (g : Gr) : M.Valid g ↔ 0 < g.nr ∧ ¬ Over g ∧ NamesOK g ∧ BodiesOK g ∧ Meant g := by
  rw [over_not]
  constructor
  · intro h
    refine ⟨h.r1, ⟨h.r2, h.l2, h.ol, fun i hi => (h.rn i hi).1, fun i hi => (h.ln i hi).1⟩, ⟨fun i hi => ⟨(h.rn i hi).2, h.ru i hi⟩, fun i hi => ⟨(h.ln i hi).2, h.la i hi⟩⟩,
      ⟨h.rb, fun i hi => ⟨h.lb i hi, h.lz i hi⟩⟩, fun i hi hh => (meant_iff g i).2 (h.lt i hi hh)⟩
  · rintro ⟨h1, ⟨h2, h3, h4, h5, h6⟩, ⟨h7, h8⟩, ⟨h9, h10⟩, h11⟩
    exact { r1 := h1, r2 := h2, l2 := h3, rn := fun i hi => ⟨h5 i hi, (h7 i hi).1⟩, ru := fun i hi => (h7 i hi).2, ln := fun i hi => ⟨h6 i hi, (h8 i hi).1⟩, la := fun i hi => (h8 i hi).2,
            rb := h9, lb := fun i hi => (h10 i hi).1, lz := fun i hi => (h10 i hi).2, lt := fun i hi hh => (meant_iff g i).1 (h11 i hi hh), ol := h4 }
theorem Flat.later {w W : World} {ra la : Option Addr} {g : Gr} {rb ro lb lo : Nat} {na ba : Nat → Option Addr} {nc bc : Nat → Nat} (h : Flat w ra la g rb ro lb lo na ba nc bc) (k : Below w.heap.size w W) : Flat W ra la g rb ro lb lo na ba nc bc :=
  ⟨h.ra, h.la, fun i hi => cell_on (h.r0 i hi) k, fun i hi => cell_on (h.r1 i hi) k, fun i hi => cell_on (h.l0 i hi) k, fun i hi => cell_on (h.l1 i hi) k, fun i hi => cell_on (h.l2 i hi) k⟩
theorem RulesA.at' {Q : Nat → Prop} {w : World} {a : Option Addr} {n : Nat} {R : Nat → NodeD} (h : RulesA Q w a n R) : ∃ b off, (0 < n → a = some ⟨b, off, none⟩) ∧ ∀ i, i < n → RuleC Q w b (off + i * 2) (R i) := by
  rcases h with h | ⟨b, off, e, _, h⟩
  · exact ⟨0, 0, fun q => by omega, fun i hi => by omega⟩
  · exact ⟨b, off, fun _ => e, h⟩
theorem LabsA.at' {Q : Nat → Prop} {w : World} {a : Option Addr} {n : Nat} {R : Nat → NodeD} (h : LabsA Q w a n R) : ∃ b off, (0 < n → a = some ⟨b, off, none⟩) ∧ ∀ i, i < n → LabC Q w b (off + i * 3) (R i) := by
  rcases h with h | ⟨b, off, e, _, h⟩
  · exact ⟨0, 0, fun q => by omega, fun i hi => by omega⟩
  · exact ⟨b, off, fun _ => e, h⟩
theorem flat_of {Q : Nat → Prop} {w : World} {ra la : Option Addr} {g : Gr} (h : GramA Q w ra la g) : ∃ rb ro lb lo na ba nc bc, Flat w ra la g rb ro lb lo na ba nc bc ∧ ∀ p, p < g.nr + g.nb → OpsA Q w (ba p) (nd g p).bl (nd g p).body := by
  obtain ⟨rb, ro, er, hr⟩ := h.rules.at'
  obtain ⟨lb, lo, el, hl⟩ := h.labs.at'
  obtain ⟨f, hf⟩ := Deep.choose_lt (α := (Option Addr × Nat) × (Option Addr × Nat)) (n := g.nr + g.nb) (p := fun p x =>
      (p < g.nr → w.cell? ⟨rb, ro + p * 2, none⟩ = some (.slice x.1.1 (nd g p).nl x.1.2) ∧ w.cell? ⟨rb, ro + p * 2 + 1, none⟩ = some (.slice x.2.1 (nd g p).bl x.2.2)) ∧
      (∀ m, p = g.nr + m → w.cell? ⟨lb, lo + m * 3, none⟩ = some (.slice x.1.1 (nd g p).nl x.1.2) ∧ w.cell? ⟨lb, lo + m * 3 + 2, none⟩ = some (.slice x.2.1 (nd g p).bl x.2.2)) ∧
      OpsA Q w x.2.1 (nd g p).bl (nd g p).body) (fun p hp => by
    by_cases e : p < g.nr
    · obtain ⟨⟨a, c, h1, _⟩, ⟨a', c', h2, h3⟩⟩ := hr p e
      rw [nd_rule g e]
      exact ⟨⟨(a, c), (a', c')⟩, fun _ => ⟨h1, h2⟩, fun m hm => by omega, h3⟩
    · obtain ⟨m, rfl⟩ : ∃ m, p = g.nr + m := ⟨p - g.nr, by omega⟩
      obtain ⟨⟨a, c, h1, _⟩, _, ⟨a', c', h2, h3⟩⟩ := hl m (by omega)
      rw [nd_lab]
      refine ⟨⟨(a, c), (a', c')⟩, fun q => by omega, fun m' hm => ?_, h3⟩
      obtain rfl : m = m' := by omega
      exact ⟨h1, h2⟩)
  refine ⟨rb, ro, lb, lo, fun p => (f p).1.1, fun p => (f p).2.1, fun p => (f p).1.2, fun p => (f p).2.2, ⟨er, el, fun i hi => ((hf i (by omega)).1 hi).1, fun i hi => ((hf i (by omega)).1 hi).2,
    fun i hi => ((hf (g.nr + i) (by omega)).2.1 i rfl).1, fun i hi => (hl i hi).has, fun i hi => ((hf (g.nr + i) (by omega)).2.1 i rfl).2⟩, fun p hp => (hf p hp).2.2⟩
theorem overLimits_any (Q : Nat → Prop) (ra la : Option Addr) (rc lc : Nat) (g : Gr) (w : World) (hG : GramA Q w ra la g) (hs : SmallG g) :
    Calls Tryz.prog 23 #[.agg #[.slice ra g.nr rc, .slice la g.nb lc]] w (SaysB (Over g) w) := by
  obtain ⟨rb, ro, lb, lo, na, ba, nc, bc, hF, _⟩ := flat_of hG
  exact callsIn_wide.1 (overLimits_in ra la rc lc g rb ro lb lo na ba nc bc w hs (fun W hW => hF.later hW))
end
end Go.Proofs.YteoddjobpmmgeaaGreat
