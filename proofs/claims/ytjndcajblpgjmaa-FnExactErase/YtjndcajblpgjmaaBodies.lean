/-
  Walks: all bodies of a grammar.
-/
import Derived.Test.YtjndcajblpgjmaaBodyOK
import Derived.Test.YtjndcajblpgjmaaStr
namespace Go.Proofs.Ytjndcajblpgjmaa
open Go.RowKit
open M (OpD NodeD Gr)
set_option linter.unusedVariables false

structure SmallN (d : NodeD) : Prop where
  name : d.nl ≤ 1048576
  byt : Byt d.nl d.name
  body : SmallB d.bl d.body

/-- The grammar's two lists, in memory. -/
structure GramA (Q : Nat → Prop) (w : World) (ra la : Option Addr) (g : Gr) : Prop where
  rules : RulesA Q w ra g.nr g.rule
  labs : LabsA Q w la g.nb g.lab
structure SmallG (g : Gr) : Prop where
  nr : g.nr ≤ 1048576
  nb : g.nb ≤ 1048576
  rule : ∀ i, i < g.nr → SmallN (g.rule i)
  lab : ∀ i, i < g.nb → SmallN (g.lab i)
theorem GramA.later {Q : Nat → Prop} {w w' : World} {ra la : Option Addr} {g : Gr} (h : GramA Q w ra la g) (t : Below w.heap.size w w') : GramA Q w' ra la g :=
  ⟨h.rules.later t, h.labs.later t⟩

def BodiesOK (g : Gr) : Prop := (∀ i, i < g.nr → M.BodyOK g.nr g.nb (g.rule i).bl (g.rule i).body) ∧
  (∀ i, i < g.nb → ((g.lab i).has = true → M.BodyOK g.nr g.nb (g.lab i).bl (g.lab i).body) ∧ ((g.lab i).has = false → (g.lab i).bl = 0))

def rulesI (W1 : World) (n : Nat) (p : Nat → Prop) (i : Value) (wr : World) : Prop :=
  ∃ k : Nat, k ≤ n ∧ i = .int .i64 (k : Int) ∧ Below W1.heap.size W1 wr ∧ ∀ j, j < k → p j

theorem all_snoc {p : Nat → Prop} {k : Nat} (h : ∀ j, j < k → p j) (hk : p k) : ∀ j, j < k + 1 → p j := fun j hj =>
  if e : j = k then e ▸ hk else h j (by omega)

set_option maxHeartbeats 4000000 in
theorem validBodies_any (Q : Nat → Prop) (ra la : Option Addr) (rc lc : Nat) (g : Gr) (w : World) (hG : GramA Q w ra la g) (hs : SmallG g) :
    Calls Try.prog 60 #[.agg #[.slice ra g.nr rc, .slice la g.nb lc]] w (SaysB (BodiesOK g) w) := by
  obtain ⟨nr, R, nb, L⟩ := g
  obtain ⟨hR, hL⟩ := hG
  obtain ⟨h1, h2, s1, s2⟩ := hs
  simp only at hR hL h1 h2 s1 s2 ⊢
  have HR : Hid (RulesA Q w ra nr R) := hR
  have HL : Hid (LabsA Q w la nb L) := hL
  have S1 : Hid (∀ i, i < nr → SmallN (R i)) := s1
  have S2 : Hid (∀ i, i < nb → SmallN (L i)) := s2
  clear hR hL s1 s2
  go_enter Try.func60, Try.ntmps60
  go_wp2
  go_loopw [10] (fun i wr => rulesI (w.alloc (.cells #[.slice ra nr rc, .slice la nb lc] 36)) nr (fun j => M.BodyOK nr nb (R j).bl (R j).body) i wr) (fun i _ => nr - (intOf i).toNat)
  case atStart => exact ⟨0, Nat.zero_le _, rfl, Below.refl _ _, fun j hj => absurd hj (Nat.not_lt_zero _)⟩
  case round =>
    obtain ⟨k, hk, rfl, hbel, hall⟩ := hrel
    have HA : Hid (∀ j, j < k → M.BodyOK nr nb (R j).bl (R j).body) := hall
    clear hall
    have hbw : Below w.heap.size w wr := bel_tr (bel1 w _) hbel
    have g0 : wr.cell? ⟨w.heap.size, 0, none⟩ = some (.slice ra nr rc) := cell_on (by simp) hbel
    have g1 : wr.cell? ⟨w.heap.size, 1, none⟩ = some (.slice la nb lc) := cell_on (by simp) hbel
    have hsz : w.heap.size < wr.heap.size := by have := hbel.size; simp at this; omega
    by_cases hlt : k < nr
    · have hR := HR.out.later hbw
      rcases hR with h0 | ⟨b, off, rfl, hq, hR⟩
      · omega
      obtain ⟨⟨na, nc, c0, hn⟩, ⟨ba, bc, c1, hb⟩⟩ := hR k hlt
      have hbl : b < wr.heap.size := lt_of_cell c0
      have HBW : Hid (Below w.heap.size w wr) := hbw
      have HBE : Hid (Below (w.alloc (.cells #[.slice (some ⟨b, off, none⟩) nr rc, .slice la nb lc] 36)).heap.size (w.alloc (.cells #[.slice (some ⟨b, off, none⟩) nr rc, .slice la nb lc] 36)) wr) := hbel
      have HO : Hid (OpsA Q wr ba (R k).bl (R k).body) := hb
      have SB : Hid (SmallB (R k).bl (R k).body) := (S1.out k hlt).body
      clear hR hbw hbel hn hb
      by_cases he : M.BodyOK nr nb (R k).bl (R k).body
      · have HE : Hid (M.BodyOK nr nb (R k).bl (R k).body) := he
        clear he
        go_wp2_with (go_at_call 119; refine (isExpression_any Q (some ⟨b, off, none⟩) la ba nr rc nb lc (R k).bl bc (R k).body _ (HO.out.later (bel1 wr _)) h1 h2 SB.out).mono ?_; rintro e W ⟨⟨r, rfl, hr⟩, hb⟩; obtain rfl : r = true := hr.2 HE.out; have HW : Hid _ := hb; clear hr hb)
        go_roundw
        case rel => exact ⟨k + 1, by omega, by go_num, bel_tr HBE.out (bel_tr (bel1 wr _) HW.out), all_snoc HA.out HE.out⟩
        case measure => simp [intOf]; omega
      · have HE : Hid (¬ M.BodyOK nr nb (R k).bl (R k).body) := he
        clear he
        go_wp2_with (go_at_call 119; refine (isExpression_any Q (some ⟨b, off, none⟩) la ba nr rc nb lc (R k).bl bc (R k).body _ (HO.out.later (bel1 wr _)) h1 h2 SB.out).mono ?_; rintro e W ⟨⟨r, rfl, hr⟩, hb⟩; obtain rfl : r = false := by { cases r; rfl; exact absurd (hr.1 rfl) HE.out }; have HW : Hid _ := hb; clear hr hb)
        go_ret
        exact ⟨⟨false, rfl, iffF fun q => HE.out (q.1 k hlt)⟩, bel_tr HBW.out (bel_tr (bel1 wr _) HW.out)⟩
    · obtain rfl : k = nr := by omega
      obtain ⟨W1, eW⟩ : ∃ W1, wr = W1 := ⟨_, rfl⟩
      subst wr
      have HBW : Hid (Below w.heap.size w W1) := hbw
      have HL' : Hid (LabsA Q W1 la nb L) := HL.out.later hbw
      clear hbel hbw HL
      go_wp2
      go_loopw [23] (fun i wr' => rulesI W1 nb (fun j => ((L j).has = true → M.BodyOK k nb (L j).bl (L j).body) ∧ ((L j).has = false → (L j).bl = 0)) i wr') (fun i _ => nb - (intOf i).toNat)
      case atStart => exact ⟨0, Nat.zero_le _, rfl, Below.refl _ _, fun j hj => absurd hj (Nat.not_lt_zero _)⟩
      case round =>
        obtain ⟨m, hm, rfl, hbel, hall⟩ := hrel
        have HM : Hid (∀ j, j < m → ((L j).has = true → M.BodyOK k nb (L j).bl (L j).body) ∧ ((L j).has = false → (L j).bl = 0)) := hall
        clear hall
        have HBE : Hid (Below W1.heap.size W1 wr) := hbel
        have HBX : Hid (Below w.heap.size w wr) := bel_tr HBW.out hbel
        have e0 : wr.cell? ⟨w.heap.size, 0, none⟩ = some (.slice ra k rc) := cell_on g0 hbel
        have e1 : wr.cell? ⟨w.heap.size, 1, none⟩ = some (.slice la nb lc) := cell_on g1 hbel
        have esz : w.heap.size < wr.heap.size := Nat.lt_of_lt_of_le hsz hbel.size
        clear g0 g1 hsz
        by_cases hlt : m < nb
        · have hL := HL'.out.later hbel
          rcases hL with h0 | ⟨b, off, rfl, hq, hL⟩
          · omega
          obtain ⟨⟨na, nc, c0, hn⟩, c1, ⟨ba, bc, c2, hb⟩⟩ := hL m hlt
          have hbl : b < wr.heap.size := lt_of_cell c0
          have HO : Hid (OpsA Q wr ba (L m).bl (L m).body) := hb
          have SB : Hid (SmallB (L m).bl (L m).body) := (S2.out m hlt).body
          have hbs := SB.out.1
          clear hL hbel hn hb
          by_cases hh : (L m).has = true
          · have HH : Hid ((L m).has = true) := hh
            rw [hh] at c1
            clear hh
            by_cases he : M.BodyOK k nb (L m).bl (L m).body
            · have HE : Hid (M.BodyOK k nb (L m).bl (L m).body) := he
              clear he
              go_wp2_with (go_at_call 119; refine (isExpression_any Q ra (some ⟨b, off, none⟩) ba k rc nb lc (L m).bl bc (L m).body _ (HO.out.later (bel1 wr _)) h1 h2 SB.out).mono ?_; rintro e W ⟨⟨r, rfl, hr⟩, hb⟩; obtain rfl : r = true := hr.2 HE.out; have x1 := (cell_on (a := ⟨wr.heap.size, 1, none⟩) (v := .bool true) (by simp) hb); have HW : Hid _ := hb; clear hr hb)
              go_roundw
              case rel => exact ⟨m + 1, by omega, by go_num, bel_tr HBE.out (bel_tr (bel1 wr _) HW.out), all_snoc HM.out ⟨fun _ => HE.out, fun q => absurd (HH.out.symm.trans q) (by decide)⟩⟩
              case measure => simp [intOf]; omega
            · have HE : Hid (¬ M.BodyOK k nb (L m).bl (L m).body) := he
              clear he
              go_wp2_with (go_at_call 119; refine (isExpression_any Q ra (some ⟨b, off, none⟩) ba k rc nb lc (L m).bl bc (L m).body _ (HO.out.later (bel1 wr _)) h1 h2 SB.out).mono ?_; rintro e W ⟨⟨r, rfl, hr⟩, hb⟩; obtain rfl : r = false := by { cases r; rfl; exact absurd (hr.1 rfl) HE.out }; have HW : Hid _ := hb; clear hr hb)
              go_ret
              exact ⟨⟨false, rfl, iffF fun q => HE.out ((q.2 m hlt).1 HH.out)⟩, bel_tr HBX.out (bel_tr (bel1 wr _) HW.out)⟩
          · have hh' : (L m).has = false := by simpa using hh
            have HH : Hid ((L m).has = false) := hh'
            rw [hh'] at c1
            clear hh hh'
            by_cases hz : (L m).bl = 0
            · have HZ : Hid ((L m).bl = 0) := hz
              have fz : ¬ (0 : Int) < ((L m).bl : Int) := by omega
              clear hz
              go_wp2
              go_roundw
              case rel => exact ⟨m + 1, by omega, by go_num, bel_tr HBE.out (bel1 wr _), all_snoc HM.out ⟨fun q => absurd (HH.out.symm.trans q) (by decide), fun _ => HZ.out⟩⟩
              case measure => simp [intOf]; omega
            · have HZ : Hid (¬ (L m).bl = 0) := hz
              have fz : (0 : Int) < ((L m).bl : Int) := by omega
              clear hz
              go_wp2
              go_ret
              exact ⟨⟨false, rfl, iffF fun q => HZ.out ((q.2 m hlt).2 HH.out)⟩, bel_tr HBX.out (bel1 wr _)⟩
        · obtain rfl : m = nb := by omega
          go_wp2
          go_ret
          exact ⟨⟨true, rfl, iffT ⟨HA.out, HM.out⟩⟩, HBX.out⟩

end Go.Proofs.Ytjndcajblpgjmaa
