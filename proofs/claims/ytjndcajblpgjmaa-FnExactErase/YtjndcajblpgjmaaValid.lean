/-
  Walks: the program's ValidGrammar.
-/
import Derived.Test.YtjndcajblpgjmaaNames
namespace Go.Proofs.Ytjndcajblpgjmaa
open Go.RowKit
open M (OpD NodeD Gr)
set_option linter.unusedVariables false

theorem sumN_split (g : Gr) : ∀ m, sumN g (g.nr + m) = M.sum (fun i => (g.rule i).bl) g.nr + M.sum (fun i => (g.lab i).bl) m
  | 0 => by
    have : ∀ n, n ≤ g.nr → sumN g n = M.sum (fun i => (g.rule i).bl) n := by
      intro n hn
      induction n with
      | zero => rfl
      | succ n ih => rw [sumN_succ, ih (by omega), M.sum, nd_rule g (by omega)]
    rw [Nat.add_zero, this _ (Nat.le_refl _)]; rfl
  | m + 1 => by
    have := sumN_split g m
    rw [← Nat.add_assoc, sumN_succ, this, nd_lab, M.sum, Nat.add_assoc]

theorem sumN_all (g : Gr) : sumN g (g.nr + g.nb) = M.ops g := sumN_split g g.nb

theorem nd_all {g : Gr} {P : NodeD → Prop} : (∀ p, p < g.nr + g.nb → P (nd g p)) ↔ (∀ i, i < g.nr → P (g.rule i)) ∧ ∀ i, i < g.nb → P (g.lab i) := by
  constructor
  · intro h
    exact ⟨fun i hi => nd_rule g hi ▸ h i (by omega), fun i hi => nd_lab g i ▸ h (g.nr + i) (by omega)⟩
  · rintro ⟨h1, h2⟩ p hp
    unfold nd
    split
    · exact h1 p (by omega)
    · exact h2 _ (by omega)

theorem over_not (g : Gr) : ¬ Over g ↔ g.nr ≤ 100 ∧ g.nb ≤ 100 ∧ M.ops g ≤ 2000 ∧ (∀ i, i < g.nr → (g.rule i).nl ≤ 32) ∧ ∀ i, i < g.nb → (g.lab i).nl ≤ 32 := by
  have hn := nd_all (g := g) (P := fun d => d.nl ≤ 32)
  unfold Over
  constructor
  · intro h
    have h1 : g.nr ≤ 100 := Nat.le_of_not_lt fun q => h (.inl q)
    have h2 : g.nb ≤ 100 := Nat.le_of_not_lt fun q => h (.inr (.inl q))
    have h3 : ∀ p, p < g.nr + g.nb → ¬ (2000 < sumN g (p + 1) ∨ 32 < (nd g p).nl) := fun p hp q => h (.inr (.inr ⟨p, hp, q⟩))
    refine ⟨h1, h2, ?_, hn.1 fun p hp => Nat.le_of_not_lt fun q => h3 p hp (.inr q)⟩
    rw [← sumN_all]
    by_cases e : g.nr + g.nb = 0
    · rw [e]; exact Nat.zero_le _
    · have := h3 (g.nr + g.nb - 1) (by omega)
      rw [show g.nr + g.nb - 1 + 1 = g.nr + g.nb by omega] at this
      omega
  · rintro ⟨h1, h2, h3, h4⟩ (q | q | ⟨p, hp, q | q⟩)
    · omega
    · omega
    · have := M.sum_le (fun i => (nd g i).bl) (show p + 1 ≤ g.nr + g.nb by omega)
      have e : M.sum (fun i => (nd g i).bl) (g.nr + g.nb) = M.ops g := sumN_all g
      have e2 : M.sum (fun i => (nd g i).bl) (p + 1) = sumN g (p + 1) := rfl
      omega
    · have := hn.2 h4 p hp
      omega

theorem meant_iff (g : Gr) (i : Nat) : ThrownTo g (g.nr + g.nb) i ↔ (∃ j, j < g.nr ∧ M.Throws (g.rule j).bl (g.rule j).body i) ∨ ∃ j, j < g.nb ∧ M.Throws (g.lab j).bl (g.lab j).body i := by
  constructor
  · rintro ⟨q, hq, h⟩
    by_cases e : q < g.nr
    · rw [nd_rule g e] at h
      exact .inl ⟨q, e, h⟩
    · obtain ⟨m, rfl⟩ : ∃ m, q = g.nr + m := ⟨q - g.nr, by omega⟩
      rw [nd_lab] at h
      exact .inr ⟨m, by omega, h⟩
  · rintro (⟨j, hj, h⟩ | ⟨j, hj, h⟩)
    · exact ⟨j, by omega, by rw [nd_rule g hj]; exact h⟩
    · exact ⟨g.nr + j, by omega, by rw [nd_lab]; exact h⟩

theorem valid_iff (g : Gr) : M.Valid g ↔ 0 < g.nr ∧ ¬ Over g ∧ NamesOK g ∧ BodiesOK g ∧ Meant g := by
  rw [over_not]
  constructor
  · intro h
    refine ⟨h.r1, ⟨h.r2, h.l2, h.ol, fun i hi => (h.rn i hi).1, fun i hi => (h.ln i hi).1⟩, ⟨fun i hi => ⟨(h.rn i hi).2, h.ru i hi⟩, fun i hi => ⟨(h.ln i hi).2, h.la i hi⟩⟩,
      ⟨h.rb, fun i hi => ⟨h.lb i hi, h.lz i hi⟩⟩, fun i hi hh => (meant_iff g i).2 (h.lt i hi hh)⟩
  · rintro ⟨h1, ⟨h2, h3, h4, h5, h6⟩, ⟨h7, h8⟩, ⟨h9, h10⟩, h11⟩
    exact { r1 := h1, r2 := h2, l2 := h3, rn := fun i hi => ⟨h5 i hi, (h7 i hi).1⟩, ru := fun i hi => (h7 i hi).2, ln := fun i hi => ⟨h6 i hi, (h8 i hi).1⟩, la := fun i hi => (h8 i hi).2,
            rb := h9, lb := fun i hi => (h10 i hi).1, lz := fun i hi => (h10 i hi).2, lt := fun i hi hh => (meant_iff g i).1 (h11 i hi hh), ol := h4 }

theorem args_ok (g : Gr) (h : BodiesOK g) : ArgsOK g := by
  have key : ∀ p, p < g.nr + g.nb → ∀ i, i < (nd g p).bl → M.ElemOK g.nr g.nb ((nd g p).body i) := by
    refine nd_all (P := fun d => ∀ i, i < d.bl → M.ElemOK g.nr g.nb (d.body i)) |>.2 ⟨fun i hi => (h.1 i hi).1, fun i hi => ?_⟩
    cases hh : (g.lab i).has with
    | true => exact ((h.2 i hi).1 hh).1
    | false => intro j hj; have := (h.2 i hi).2 hh; omega
  intro p hp i hi hk
  have hE := key p hp i hi
  generalize (nd g p).body i = d at hE hk ⊢
  obtain ⟨kd, sl, S, arg⟩ := d
  simp only at hk
  subst hk
  have := (elem3 _ _ _ _ _).1 hE
  exact ⟨this.1, this.2.1⟩

theorem Flat.later {w W : World} {ra la : Option Addr} {g : Gr} {rb ro lb lo : Nat} {na ba : Nat → Option Addr} {nc bc : Nat → Nat} (h : Flat w ra la g rb ro lb lo na ba nc bc) (k : Below w.heap.size w W) : Flat W ra la g rb ro lb lo na ba nc bc :=
  ⟨h.ra, h.la, fun i hi => cell_on (h.r0 i hi) k, fun i hi => cell_on (h.r1 i hi) k, fun i hi => cell_on (h.l0 i hi) k, fun i hi => cell_on (h.l1 i hi) k, fun i hi => cell_on (h.l2 i hi) k⟩

theorem RulesA.at' {Q : Nat → Prop} {w : World} {a : Option Addr} {n : Nat} {R : Nat → NodeD} (h : RulesA Q w a n R) : ∃ b off, (0 < n → a = some ⟨b, off, none⟩) ∧ ∀ i, i < n → RuleC Q w b (off + i * 2) (R i) := by
  rcases h with h | ⟨b, off, e, _, h⟩
  · exact ⟨0, 0, fun q => by omega, fun i hi => by omega⟩
  · exact ⟨b, off, fun _ => e, h⟩
theorem LabsA.at' {Q : Nat → Prop} {w : World} {a : Option Addr} {n : Nat} {R : Nat → NodeD} (h : LabsA Q w a n R) : ∃ b off, (0 < n → a = some ⟨b, off, none⟩) ∧ ∀ i, i < n → LabC Q w b (off + i * 3) (R i) := by
  rcases h with h | ⟨b, off, e, _, h⟩
  · exact ⟨0, 0, fun q => by omega, fun i hi => by omega⟩
  · exact ⟨b, off, fun _ => e, h⟩

theorem flat_of {Q : Nat → Prop} {w : World} {ra la : Option Addr} {g : Gr} (h : GramA Q w ra la g) : ∃ rb ro lb lo na ba nc bc, Flat w ra la g rb ro lb lo na ba nc bc ∧ ∀ p, p < g.nr + g.nb → OpsA Q w (ba p) (nd g p).bl (nd g p).body := by
  obtain ⟨rb, ro, er, hr⟩ := h.rules.at'
  obtain ⟨lb, lo, el, hl⟩ := h.labs.at'
  obtain ⟨f, hf⟩ := Deep.choose_lt (α := (Option Addr × Nat) × (Option Addr × Nat)) (n := g.nr + g.nb) (p := fun p x =>
      (p < g.nr → w.cell? ⟨rb, ro + p * 2, none⟩ = some (.slice x.1.1 (nd g p).nl x.1.2) ∧ w.cell? ⟨rb, ro + p * 2 + 1, none⟩ = some (.slice x.2.1 (nd g p).bl x.2.2)) ∧
      (∀ m, p = g.nr + m → w.cell? ⟨lb, lo + m * 3, none⟩ = some (.slice x.1.1 (nd g p).nl x.1.2) ∧ w.cell? ⟨lb, lo + m * 3 + 2, none⟩ = some (.slice x.2.1 (nd g p).bl x.2.2)) ∧
      OpsA Q w x.2.1 (nd g p).bl (nd g p).body) (fun p hp => by
    by_cases e : p < g.nr
    · obtain ⟨⟨a, c, h1, _⟩, ⟨a', c', h2, h3⟩⟩ := hr p e
      rw [nd_rule g e]
      exact ⟨⟨(a, c), (a', c')⟩, fun _ => ⟨h1, h2⟩, fun m hm => by omega, h3⟩
    · obtain ⟨m, rfl⟩ : ∃ m, p = g.nr + m := ⟨p - g.nr, by omega⟩
      obtain ⟨⟨a, c, h1, _⟩, _, ⟨a', c', h2, h3⟩⟩ := hl m (by omega)
      rw [nd_lab]
      refine ⟨⟨(a, c), (a', c')⟩, fun q => by omega, fun m' hm => ?_, h3⟩
      obtain rfl : m = m' := by omega
      exact ⟨h1, h2⟩)
  refine ⟨rb, ro, lb, lo, fun p => (f p).1.1, fun p => (f p).2.1, fun p => (f p).1.2, fun p => (f p).2.2, ⟨er, el, fun i hi => ((hf i (by omega)).1 hi).1, fun i hi => ((hf i (by omega)).1 hi).2,
    fun i hi => ((hf (g.nr + i) (by omega)).2.1 i rfl).1, fun i hi => (hl i hi).has, fun i hi => ((hf (g.nr + i) (by omega)).2.1 i rfl).2⟩, fun p hp => (hf p hp).2.2⟩

theorem overLimits_any (Q : Nat → Prop) (ra la : Option Addr) (rc lc : Nat) (g : Gr) (w : World) (hG : GramA Q w ra la g) (hs : SmallG g) :
    Calls Try.prog 58 #[.agg #[.slice ra g.nr rc, .slice la g.nb lc]] w (SaysB (Over g) w) := by
  obtain ⟨rb, ro, lb, lo, na, ba, nc, bc, hF, _⟩ := flat_of hG
  exact callsIn_wide.1 (overLimits_in ra la rc lc g rb ro lb lo na ba nc bc w hs (fun W hW => hF.later hW))

theorem labelsMeant_any (Q : Nat → Prop) (ra la : Option Addr) (rc lc : Nat) (g : Gr) (w : World) (hG : GramA Q w ra la g) (hs : SmallG g) (hA : ArgsOK g) (hsum : sumN g (g.nr + g.nb) ≤ 2000) :
    Calls Try.prog 61 #[.agg #[.slice ra g.nr rc, .slice la g.nb lc]] w (SaysB (Meant g) w) := by
  obtain ⟨rb, ro, lb, lo, na, ba, nc, bc, hF, hO⟩ := flat_of hG
  exact callsIn_wide.1 (labelsMeant_in Q ra la rc lc g rb ro lb lo na ba nc bc w hs (fun W hW => hF.later hW) hO hA hsum)

set_option maxHeartbeats 2000000 in
theorem validGrammar_any (Q : Nat → Prop) (ra la : Option Addr) (rc lc : Nat) (g : Gr) (w : World) (hG : GramA Q w ra la g) (hs : SmallG g) :
    Calls Try.prog 18 #[.agg #[.slice ra g.nr rc, .slice la g.nb lc]] w (SaysB (M.Valid g) w) := by
  have HG : Hid (GramA Q w ra la g) := hG
  have h1 := hs.nr
  have h2 := hs.nb
  have HS : Hid (SmallG g) := hs
  clear hG hs
  have box : ∀ W, Below (w.alloc (.cells #[.slice ra g.nr rc, .slice la g.nb lc] 36)).heap.size (w.alloc (.cells #[.slice ra g.nr rc, .slice la g.nb lc] 36)) W → W.cell? ⟨w.heap.size, 0, none⟩ = some (.slice ra g.nr rc) ∧ W.cell? ⟨w.heap.size, 1, none⟩ = some (.slice la g.nb lc) := fun W hW =>
    ⟨cell_on (cells2New w _ _ 36).1 hW, cell_on (cells2New w _ _ 36).2 hW⟩
  have BX : Hid (∀ W, Below (w.alloc (.cells #[.slice ra g.nr rc, .slice la g.nb lc] 36)).heap.size (w.alloc (.cells #[.slice ra g.nr rc, .slice la g.nb lc] 36)) W → W.cell? ⟨w.heap.size, 0, none⟩ = some (.slice ra g.nr rc) ∧ W.cell? ⟨w.heap.size, 1, none⟩ = some (.slice la g.nb lc)) := box
  clear box
  by_cases e0 : g.nr = 0
  · have t0 : ¬ (0 : Int) < (g.nr : Int) := by omega
    go_enter Try.func18, Try.ntmps18
    go_wp2
    go_ret
    exact ⟨⟨false, rfl, iffF fun q => by have := q.r1; omega⟩, bel1 w _⟩
  have t0 : (0 : Int) < (g.nr : Int) := by omega
  by_cases e1 : Over g
  · have E1 : Hid (Over g) := e1
    clear e1
    go_enter Try.func18, Try.ntmps18
    go_wp2_with (go_at_call 58; refine (overLimits_any Q ra la rc lc g _ (HG.out.later (bel1 w _)) HS.out).mono ?_; rintro e W ⟨⟨r, rfl, hr⟩, hb⟩; obtain rfl : r = true := hr.2 E1.out; have HW : Hid _ := hb; clear hr hb)
    go_ret
    exact ⟨⟨false, rfl, iffF fun q => ((valid_iff g).1 q).2.1 E1.out⟩, bel_tr (bel1 w _) HW.out⟩
  have E1 : Hid (¬ Over g) := e1
  clear e1
  by_cases e2 : NamesOK g
  · have E2 : Hid (NamesOK g) := e2
    clear e2
    by_cases e3 : BodiesOK g
    · have E3 : Hid (BodiesOK g) := e3
      have EA : Hid (ArgsOK g) := args_ok g e3
      have ES : Hid (sumN g (g.nr + g.nb) ≤ 2000) := by show _ ≤ _; rw [sumN_all]; exact ((over_not g).1 E1.out).2.2.1
      clear e3
      go_enter Try.func18, Try.ntmps18
      go_wp2_with (first | (go_at_call 58; refine (overLimits_any Q ra la rc lc g _ (HG.out.later (bel1 w _)) HS.out).mono ?_; rintro e W ⟨⟨r, rfl, hr⟩, hb⟩; obtain rfl : r = false := by { cases r; rfl; exact absurd (hr.1 rfl) E1.out }; obtain ⟨x0, x1⟩ := BX.out W hb; have HW : Hid _ := hb; clear hr hb) | (go_at_call 59; refine (validNames_any Q ra la rc lc g _ (HG.out.later (bel_tr (bel1 w _) HW.out)) HS.out).mono ?_; rintro e W2 ⟨⟨r, rfl, hr⟩, hb⟩; obtain rfl : r = true := hr.2 E2.out; obtain ⟨y0, y1⟩ := BX.out W2 (bel_tr HW.out hb); have HW2 : Hid _ := bel_tr HW.out hb; clear hr hb) | (go_at_call 60; refine (validBodies_any Q ra la rc lc g _ (HG.out.later (bel_tr (bel1 w _) HW2.out)) HS.out).mono ?_; rintro e W3 ⟨⟨r, rfl, hr⟩, hb⟩; obtain rfl : r = true := hr.2 E3.out; obtain ⟨z0, z1⟩ := BX.out W3 (bel_tr HW2.out hb); have HW3 : Hid _ := bel_tr HW2.out hb; clear hr hb) | (go_at_call 61; refine (labelsMeant_any Q ra la rc lc g _ (HG.out.later (bel_tr (bel1 w _) HW3.out)) HS.out EA.out ES.out).mono ?_; rintro e W4 ⟨⟨r, rfl, hr⟩, hb⟩; have HR : Hid _ := hr; have HW4 : Hid _ := bel_tr HW3.out hb; clear hr hb))
      go_ret
      exact ⟨⟨_, rfl, HR.out.trans ⟨fun q => (valid_iff g).2 ⟨by omega, E1.out, E2.out, E3.out, q⟩, fun q => ((valid_iff g).1 q).2.2.2.2⟩⟩, bel_tr (bel1 w _) HW4.out⟩
    · have E3 : Hid (¬ BodiesOK g) := e3
      clear e3
      go_enter Try.func18, Try.ntmps18
      go_wp2_with (first | (go_at_call 58; refine (overLimits_any Q ra la rc lc g _ (HG.out.later (bel1 w _)) HS.out).mono ?_; rintro e W ⟨⟨r, rfl, hr⟩, hb⟩; obtain rfl : r = false := by { cases r; rfl; exact absurd (hr.1 rfl) E1.out }; obtain ⟨x0, x1⟩ := BX.out W hb; have HW : Hid _ := hb; clear hr hb) | (go_at_call 59; refine (validNames_any Q ra la rc lc g _ (HG.out.later (bel_tr (bel1 w _) HW.out)) HS.out).mono ?_; rintro e W2 ⟨⟨r, rfl, hr⟩, hb⟩; obtain rfl : r = true := hr.2 E2.out; obtain ⟨y0, y1⟩ := BX.out W2 (bel_tr HW.out hb); have HW2 : Hid _ := bel_tr HW.out hb; clear hr hb) | (go_at_call 60; refine (validBodies_any Q ra la rc lc g _ (HG.out.later (bel_tr (bel1 w _) HW2.out)) HS.out).mono ?_; rintro e W3 ⟨⟨r, rfl, hr⟩, hb⟩; obtain rfl : r = false := by { cases r; rfl; exact absurd (hr.1 rfl) E3.out }; have HW3 : Hid _ := bel_tr HW2.out hb; clear hr hb))
      go_ret
      exact ⟨⟨false, rfl, iffF fun q => E3.out ((valid_iff g).1 q).2.2.2.1⟩, bel_tr (bel1 w _) HW3.out⟩
  · have E2 : Hid (¬ NamesOK g) := e2
    clear e2
    go_enter Try.func18, Try.ntmps18
    go_wp2_with (first | (go_at_call 58; refine (overLimits_any Q ra la rc lc g _ (HG.out.later (bel1 w _)) HS.out).mono ?_; rintro e W ⟨⟨r, rfl, hr⟩, hb⟩; obtain rfl : r = false := by { cases r; rfl; exact absurd (hr.1 rfl) E1.out }; obtain ⟨x0, x1⟩ := BX.out W hb; have HW : Hid _ := hb; clear hr hb) | (go_at_call 59; refine (validNames_any Q ra la rc lc g _ (HG.out.later (bel_tr (bel1 w _) HW.out)) HS.out).mono ?_; rintro e W2 ⟨⟨r, rfl, hr⟩, hb⟩; obtain rfl : r = false := by { cases r; rfl; exact absurd (hr.1 rfl) E2.out }; have HW2 : Hid _ := bel_tr HW.out hb; clear hr hb))
    go_ret
    exact ⟨⟨false, rfl, iffF fun q => E2.out ((valid_iff g).1 q).2.2.1⟩, bel_tr (bel1 w _) HW2.out⟩

end Go.Proofs.Ytjndcajblpgjmaa
