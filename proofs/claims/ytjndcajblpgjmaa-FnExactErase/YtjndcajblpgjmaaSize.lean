/-
  Walks: how great an argument is.
-/
import Derived.Test.YtjndcajblpgjmaaBodies
namespace Go.Proofs.Ytjndcajblpgjmaa
open Go.RowKit
open M (OpD NodeD Gr)
set_option linter.unusedVariables false

/-- The call answers what is left of 'left', or a negative number; if it is not negative, P holds. -/
def SzIs (left : Int) (P : Prop) (w : World) (e : Ending) (w' : World) : Prop := (∃ r : Int, e = .returned (.int .i64 r) ∧ r ≤ left ∧ (0 ≤ r → P)) ∧ Below w.heap.size w w'

set_option maxHeartbeats 1000000 in
theorem szIntS_any (a : Option Addr) (n c : Nat) (left : Int) (w : World) (h0 : 0 ≤ left) (h1 : left ≤ 1048576) (hn : n ≤ 9223372036854775807) :
    Calls Try.prog 147 #[.slice a n c, .int .i64 left] w (SzIs left (n ≤ 1048576) w) := by
  by_cases hl : left - (n : Int) < 0
  · go_enter Try.func147, Try.ntmps147
    go_wp2
    go_ret
    exact ⟨⟨-1, rfl, by omega, fun h => by omega⟩, Below.refl _ _⟩
  · go_enter Try.func147, Try.ntmps147
    go_wp2
    go_ret
    exact ⟨⟨_, rfl, by omega, fun h => by omega⟩, Below.refl _ _⟩

set_option maxHeartbeats 1000000 in
theorem szByteS_any (a : Option Addr) (n c : Nat) (left : Int) (w : World) (h0 : 0 ≤ left) (h1 : left ≤ 1048576) (hn : n ≤ 9223372036854775807) :
    Calls Try.prog 163 #[.slice a n c, .int .i64 left] w (SzIs left (n ≤ 1048576) w) := by
  by_cases hl : left - (n : Int) < 0
  · go_enter Try.func163, Try.ntmps163
    go_wp2
    go_ret
    exact ⟨⟨-1, rfl, by omega, fun h => by omega⟩, Below.refl _ _⟩
  · go_enter Try.func163, Try.ntmps163
    go_wp2
    go_ret
    exact ⟨⟨_, rfl, by omega, fun h => by omega⟩, Below.refl _ _⟩

set_option maxHeartbeats 1000000 in
theorem szOp_any (a : Option Addr) (n c : Nat) (kd arg left : Int) (w : World) (h0 : 0 ≤ left) (h1 : left ≤ 1048576) (hn : n ≤ 9223372036854775807) :
    Calls Try.prog 199 #[.agg #[.int .i64 kd, .slice a n c, .int .i64 arg], .int .i64 left] w (SzIs left (n ≤ 1048576) w) := by
  go_enter Try.func199, Try.ntmps199
  go_wp2_with (go_at_call 147; refine (szIntS_any a n c left _ h0 h1 hn).mono ?_; rintro e W ⟨⟨r, rfl, hr, hp⟩, hb⟩; have HP : Hid _ := hp; have HB : Hid _ := hb; clear hp hb)
  · go_ret
    exact ⟨⟨-1, rfl, by omega, fun h => by omega⟩, bel_tr (bel1 w _) HB.out⟩
  · go_ret
    exact ⟨⟨_, rfl, hr, HP.out⟩, bel_tr (bel1 w _) HB.out⟩

def szI (w : World) (n : Nat) (left : Int) (p : Nat → Prop) (l i : Value) (wr : World) : Prop :=
  ∃ (k : Nat) (r : Int), k ≤ n ∧ l = .int .i64 r ∧ 0 ≤ r ∧ r ≤ left ∧ i = .int .i64 (k : Int) ∧ Below w.heap.size w wr ∧ ∀ j, j < k → p j

set_option maxHeartbeats 2000000 in
theorem szOpS_any (Q : Nat → Prop) (a : Option Addr) (n c : Nat) (B : Nat → OpD) (left : Int) (w : World) (hB : OpsA Q w a n B) (h0 : 0 ≤ left) (h1 : left ≤ 1048576) (hn : n ≤ 9223372036854775807) (hs : ∀ i, i < n → (B i).sl ≤ 9223372036854775807) :
    Calls Try.prog 164 #[.slice a n c, .int .i64 left] w (SzIs left (SmallB n B) w) := by
  by_cases hl : left - (n : Int) < 0
  · go_enter Try.func164, Try.ntmps164
    go_wp2
    go_ret
    exact ⟨⟨-1, rfl, by omega, fun h => by omega⟩, Below.refl _ _⟩
  have HB : Hid (OpsA Q w a n B) := hB
  have HS : Hid (∀ i, i < n → (B i).sl ≤ 9223372036854775807) := hs
  clear hB hs
  have hl' : ¬ left - (n : Int) < 0 := hl
  go_enter Try.func164, Try.ntmps164
  go_wp2
  go_loopw [1, 5] (fun l i wr => szI w n left (fun j => (B j).sl ≤ 1048576) l i wr) (fun l i _ => n - (intOf i).toNat)
  case atStart => exact ⟨0, left - n, Nat.zero_le _, rfl, by omega, by omega, rfl, Below.refl _ _, fun j hj => absurd hj (Nat.not_lt_zero _)⟩
  case round =>
    obtain ⟨k, r, hk, rfl, r0, r1, rfl, hbw, hall⟩ := hrel
    have HA : Hid (∀ j, j < k → (B j).sl ≤ 1048576) := hall
    clear hall
    by_cases hlt : k < n
    · have hB := HB.out.later hbw
      rcases hB with h0 | ⟨b, off, rfl, hq, hB⟩
      · omega
      obtain ⟨c0, ⟨sa, sc, c1, hs⟩, c2⟩ := hB k hlt
      have hsl := HS.out k hlt
      have HBW : Hid (Below w.heap.size w wr) := hbw
      clear hB hbw hs
      go_wp2_with (go_at_call 199; refine (szOp_any sa (B k).sl sc (B k).kind (B k).arg r _ r0 (by omega) hsl).mono ?_; rintro e W ⟨⟨q, rfl, hq', hp⟩, hb⟩; have HP : Hid _ := hp; have HBB : Hid _ := hb; clear hp hb)
      · go_ret
        exact ⟨⟨-1, rfl, by omega, fun h => by omega⟩, bel_tr HBW.out HBB.out⟩
      · go_roundw
        case rel => exact ⟨k + 1, q, by omega, rfl, by omega, by omega, by go_num, bel_tr HBW.out HBB.out, all_snoc HA.out (HP.out (by omega))⟩
        case measure => simp [intOf]; omega
    · obtain rfl : k = n := by omega
      go_wp2
      go_ret
      exact ⟨⟨r, rfl, r1, fun _ => ⟨by omega, HA.out⟩⟩, hbw⟩

/-- A node of any size. -/
structure BigN (d : NodeD) : Prop where
  name : d.nl ≤ 9223372036854775807
  byt : Byt d.nl d.name
  body : d.bl ≤ 9223372036854775807
  sets : ∀ i, i < d.bl → (d.body i).sl ≤ 9223372036854775807
structure BigG (g : Gr) : Prop where
  nr : g.nr ≤ 9223372036854775807
  nb : g.nb ≤ 9223372036854775807
  rule : ∀ i, i < g.nr → BigN (g.rule i)
  lab : ∀ i, i < g.nb → BigN (g.lab i)

set_option maxHeartbeats 2000000 in
theorem szRule_any (Q : Nat → Prop) (na ba : Option Addr) (nc bc : Nat) (d : NodeD) (left : Int) (w : World) (hB : OpsA Q w ba d.bl d.body) (hd : BigN d) (h0 : 0 ≤ left) (h1 : left ≤ 1048576) :
    Calls Try.prog 108 #[.agg #[.slice na d.nl nc, .slice ba d.bl bc], .int .i64 left] w (SzIs left (SmallN d) w) := by
  have HB : Hid (OpsA Q w ba d.bl d.body) := hB
  have n1 := hd.name
  have HD : Hid (BigN d) := hd
  clear hB hd
  go_enter Try.func108, Try.ntmps108
  go_wp2_with (go_at_call 163; refine (szByteS_any na d.nl nc left _ h0 h1 n1).mono ?_; rintro e W ⟨⟨r, rfl, hr, hp⟩, hb⟩; have x1 := cell_on (a := ⟨w.heap.size, 1, none⟩) (v := .slice ba d.bl bc) (by simp) hb; have HP : Hid _ := hp; have HB1 : Hid _ := hb; clear hp hb)
  · go_ret
    exact ⟨⟨-1, rfl, by omega, fun h => by omega⟩, bel_tr (bel1 w _) HB1.out⟩
  · have rr0 : 0 ≤ r := by omega
    have rr1 : r ≤ 1048576 := by omega
    go_wp2_with (go_at_call 164; refine (szOpS_any Q ba d.bl bc d.body r _ (HB.out.later (bel_tr (bel1 w _) HB1.out)) rr0 rr1 HD.out.body HD.out.sets).mono ?_; rintro e W2 ⟨⟨r2, rfl, hr2, hp⟩, hb⟩; have HP2 : Hid _ := hp; have HB2 : Hid _ := hb; clear hp hb)
    · go_ret
      exact ⟨⟨-1, rfl, by omega, fun h => by omega⟩, bel_tr (bel1 w _) (bel_tr HB1.out HB2.out)⟩
    · go_ret
      exact ⟨⟨r2, rfl, by omega, fun h => ⟨HP.out rr0, HD.out.byt, HP2.out h⟩⟩, bel_tr (bel1 w _) (bel_tr HB1.out HB2.out)⟩

set_option maxHeartbeats 2000000 in
theorem szLabel_any (Q : Nat → Prop) (na ba : Option Addr) (nc bc : Nat) (d : NodeD) (left : Int) (w : World) (hB : OpsA Q w ba d.bl d.body) (hd : BigN d) (h0 : 0 ≤ left) (h1 : left ≤ 1048576) :
    Calls Try.prog 109 #[.agg #[.slice na d.nl nc, .bool d.has, .slice ba d.bl bc], .int .i64 left] w (SzIs left (SmallN d) w) := by
  have HB : Hid (OpsA Q w ba d.bl d.body) := hB
  have n1 := hd.name
  have HD : Hid (BigN d) := hd
  clear hB hd
  go_enter Try.func109, Try.ntmps109
  go_wp2_with (go_at_call 163; refine (szByteS_any na d.nl nc left _ h0 h1 n1).mono ?_; rintro e W ⟨⟨r, rfl, hr, hp⟩, hb⟩; have x1 := cell_on (a := ⟨w.heap.size, 2, none⟩) (v := .slice ba d.bl bc) (by simp) hb; have HP : Hid _ := hp; have HB1 : Hid _ := hb; clear hp hb)
  · go_ret
    exact ⟨⟨-1, rfl, by omega, fun h => by omega⟩, bel_tr (bel1 w _) HB1.out⟩
  · have rr0 : 0 ≤ r := by omega
    have rr1 : r ≤ 1048576 := by omega
    go_wp2_with (go_at_call 164; refine (szOpS_any Q ba d.bl bc d.body r _ (HB.out.later (bel_tr (bel1 w _) HB1.out)) rr0 rr1 HD.out.body HD.out.sets).mono ?_; rintro e W2 ⟨⟨r2, rfl, hr2, hp⟩, hb⟩; have HP2 : Hid _ := hp; have HB2 : Hid _ := hb; clear hp hb)
    · go_ret
      exact ⟨⟨-1, rfl, by omega, fun h => by omega⟩, bel_tr (bel1 w _) (bel_tr HB1.out HB2.out)⟩
    · go_ret
      exact ⟨⟨r2, rfl, by omega, fun h => ⟨HP.out rr0, HD.out.byt, HP2.out h⟩⟩, bel_tr (bel1 w _) (bel_tr HB1.out HB2.out)⟩

set_option maxHeartbeats 2000000 in
theorem szRuleS_any (Q : Nat → Prop) (a : Option Addr) (n c : Nat) (R : Nat → NodeD) (left : Int) (w : World) (hR : RulesA Q w a n R) (hd : ∀ i, i < n → BigN (R i)) (hn : n ≤ 9223372036854775807) (h0 : 0 ≤ left) (h1 : left ≤ 1048576) :
    Calls Try.prog 50 #[.slice a n c, .int .i64 left] w (SzIs left (n ≤ 1048576 ∧ ∀ i, i < n → SmallN (R i)) w) := by
  by_cases hl : left - (n : Int) < 0
  · go_enter Try.func50, Try.ntmps50
    go_wp2
    go_ret
    exact ⟨⟨-1, rfl, by omega, fun h => by omega⟩, Below.refl _ _⟩
  have HR : Hid (RulesA Q w a n R) := hR
  have HD : Hid (∀ i, i < n → BigN (R i)) := hd
  clear hR hd
  have hl' : ¬ left - (n : Int) < 0 := hl
  go_enter Try.func50, Try.ntmps50
  go_wp2
  go_loopw [1, 5] (fun l i wr => szI w n left (fun j => SmallN (R j)) l i wr) (fun l i _ => n - (intOf i).toNat)
  case atStart => exact ⟨0, left - n, Nat.zero_le _, rfl, by omega, by omega, rfl, Below.refl _ _, fun j hj => absurd hj (Nat.not_lt_zero _)⟩
  case round =>
    obtain ⟨k, r, hk, rfl, r0, r1, rfl, hbw, hall⟩ := hrel
    have HA : Hid (∀ j, j < k → SmallN (R j)) := hall
    clear hall
    by_cases hlt : k < n
    · have hR := HR.out.later hbw
      rcases hR with h0 | ⟨b, off, rfl, hq, hR⟩
      · omega
      obtain ⟨⟨na, nc, c0, hn'⟩, ⟨ba, bc, c2, hb'⟩⟩ := hR k hlt
      have HO : Hid (OpsA Q wr ba (R k).bl (R k).body) := hb'
      have HBW : Hid (Below w.heap.size w wr) := hbw
      clear hR hbw hn' hb'
      go_wp2_with (go_at_call 108; refine (szRule_any Q na ba nc bc (R k) r _ HO.out (HD.out k hlt) r0 (by omega)).mono ?_; rintro e W ⟨⟨q, rfl, hq', hp⟩, hb⟩; have HP : Hid _ := hp; have HBB : Hid _ := hb; clear hp hb)
      · go_ret
        exact ⟨⟨-1, rfl, by omega, fun h => by omega⟩, bel_tr HBW.out HBB.out⟩
      · go_roundw
        case rel => exact ⟨k + 1, q, by omega, rfl, by omega, by omega, by go_num, bel_tr HBW.out HBB.out, all_snoc HA.out (HP.out (by omega))⟩
        case measure => simp [intOf]; omega
    · obtain rfl : k = n := by omega
      go_wp2
      go_ret
      exact ⟨⟨r, rfl, r1, fun _ => ⟨by omega, HA.out⟩⟩, hbw⟩

set_option maxHeartbeats 2000000 in
theorem szLabelS_any (Q : Nat → Prop) (a : Option Addr) (n c : Nat) (R : Nat → NodeD) (left : Int) (w : World) (hR : LabsA Q w a n R) (hd : ∀ i, i < n → BigN (R i)) (hn : n ≤ 9223372036854775807) (h0 : 0 ≤ left) (h1 : left ≤ 1048576) :
    Calls Try.prog 51 #[.slice a n c, .int .i64 left] w (SzIs left (n ≤ 1048576 ∧ ∀ i, i < n → SmallN (R i)) w) := by
  by_cases hl : left - (n : Int) < 0
  · go_enter Try.func51, Try.ntmps51
    go_wp2
    go_ret
    exact ⟨⟨-1, rfl, by omega, fun h => by omega⟩, Below.refl _ _⟩
  have HR : Hid (LabsA Q w a n R) := hR
  have HD : Hid (∀ i, i < n → BigN (R i)) := hd
  clear hR hd
  have hl' : ¬ left - (n : Int) < 0 := hl
  go_enter Try.func51, Try.ntmps51
  go_wp2
  go_loopw [1, 5] (fun l i wr => szI w n left (fun j => SmallN (R j)) l i wr) (fun l i _ => n - (intOf i).toNat)
  case atStart => exact ⟨0, left - n, Nat.zero_le _, rfl, by omega, by omega, rfl, Below.refl _ _, fun j hj => absurd hj (Nat.not_lt_zero _)⟩
  case round =>
    obtain ⟨k, r, hk, rfl, r0, r1, rfl, hbw, hall⟩ := hrel
    have HA : Hid (∀ j, j < k → SmallN (R j)) := hall
    clear hall
    by_cases hlt : k < n
    · have hR := HR.out.later hbw
      rcases hR with h0 | ⟨b, off, rfl, hq, hR⟩
      · omega
      obtain ⟨⟨na, nc, c0, hn'⟩, c1, ⟨ba, bc, c2, hb'⟩⟩ := hR k hlt
      have HO : Hid (OpsA Q wr ba (R k).bl (R k).body) := hb'
      have HBW : Hid (Below w.heap.size w wr) := hbw
      clear hR hbw hn' hb'
      go_wp2_with (go_at_call 109; refine (szLabel_any Q na ba nc bc (R k) r _ HO.out (HD.out k hlt) r0 (by omega)).mono ?_; rintro e W ⟨⟨q, rfl, hq', hp⟩, hb⟩; have HP : Hid _ := hp; have HBB : Hid _ := hb; clear hp hb)
      · go_ret
        exact ⟨⟨-1, rfl, by omega, fun h => by omega⟩, bel_tr HBW.out HBB.out⟩
      · go_roundw
        case rel => exact ⟨k + 1, q, by omega, rfl, by omega, by omega, by go_num, bel_tr HBW.out HBB.out, all_snoc HA.out (HP.out (by omega))⟩
        case measure => simp [intOf]; omega
    · obtain rfl : k = n := by omega
      go_wp2
      go_ret
      exact ⟨⟨r, rfl, r1, fun _ => ⟨by omega, HA.out⟩⟩, hbw⟩

set_option maxHeartbeats 2000000 in
theorem szGrammar_any (Q : Nat → Prop) (ra la : Option Addr) (rc lc : Nat) (g : Gr) (left : Int) (w : World) (hG : GramA Q w ra la g) (hd : BigG g) (h0 : 0 ≤ left) (h1 : left ≤ 1048576) :
    Calls Try.prog 15 #[.agg #[.slice ra g.nr rc, .slice la g.nb lc], .int .i64 left] w (SzIs left (SmallG g) w) := by
  have HG : Hid (GramA Q w ra la g) := hG
  have HD : Hid (BigG g) := hd
  clear hG hd
  go_enter Try.func15, Try.ntmps15
  go_wp2_with (go_at_call 50; refine (szRuleS_any Q ra g.nr rc g.rule left _ (HG.out.rules.later (bel1 w _)) HD.out.rule HD.out.nr h0 h1).mono ?_; rintro e W ⟨⟨r, rfl, hr, hp⟩, hb⟩; have x1 := cell_on (a := ⟨w.heap.size, 1, none⟩) (v := .slice la g.nb lc) (by simp) hb; have HP : Hid _ := hp; have HB1 : Hid _ := hb; clear hp hb)
  · go_ret
    exact ⟨⟨-1, rfl, by omega, fun h => by omega⟩, bel_tr (bel1 w _) HB1.out⟩
  · have rr0 : 0 ≤ r := by omega
    have rr1 : r ≤ 1048576 := by omega
    go_wp2_with (go_at_call 51; refine (szLabelS_any Q la g.nb lc g.lab r _ (HG.out.labs.later (bel_tr (bel1 w _) HB1.out)) HD.out.lab HD.out.nb rr0 rr1).mono ?_; rintro e W2 ⟨⟨r2, rfl, hr2, hp⟩, hb⟩; have HP2 : Hid _ := hp; have HB2 : Hid _ := hb; clear hp hb)
    · go_ret
      exact ⟨⟨-1, rfl, by omega, fun h => by omega⟩, bel_tr (bel1 w _) (bel_tr HB1.out HB2.out)⟩
    · go_ret
      exact ⟨⟨r2, rfl, by omega, fun h => ⟨(HP.out rr0).1, (HP2.out h).1, (HP.out rr0).2, (HP2.out h).2⟩⟩, bel_tr (bel1 w _) (bel_tr HB1.out HB2.out)⟩

end Go.Proofs.Ytjndcajblpgjmaa
