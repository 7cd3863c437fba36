/-
  Walks: the specification's Nullable.
-/
import Derived.Test.YtjpcojabdjldbaaSNul
namespace Go.Proofs.Ytjpcojabdjldbaa
open Go.RowKit
open M (OpD NodeD Gr)
set_option linter.unusedVariables false
set_option linter.unusedSimpArgs false

def bhalf (S : Nat → Bool) (m : Nat) (j : Nat) : Value := if j < m then .bool (S j) else .bool false
theorem bhalf_step {t : TypeId} {w : World} {b n m : Nat} {S : Nat → Bool} {v : Bool} (h : w.rowIs b t n (bhalf S m)) (hv : v = S m) : (w.setCell ⟨b, m, none⟩ (.bool v)).rowIs b t n (bhalf S (m + 1)) := by
  subst hv
  refine (h.set m (.bool (S m))).congr fun i _ => ?_
  unfold bhalf
  by_cases e : i = m
  · subst e; simp
  · rw [if_neg e]
    by_cases e2 : i < m
    · rw [if_pos e2, if_pos (by omega)]
    · rw [if_neg e2, if_neg (by omega)]
theorem bhalf_full {t : TypeId} {w : World} {b n : Nat} {S : Nat → Bool} (h : w.rowIs b t n (bhalf S n)) : w.rowIs b t n (fun i => .bool (S i)) := h.congr fun i hi => by simp [bhalf, hi]

/-- What the outer loop keeps. -/
def outI (W1 : World) (B n : Nat) (F : (Nat → Bool) → Nat → Bool) (mv rv : Value) (wr : World) : Prop :=
  ∃ r mb : Nat, r ≤ n ∧ rv = .int .i64 (r : Int) ∧ mv = .slice (some ⟨mb, 0, none⟩) n n ∧ B < mb ∧ wr.rowIs mb 4 n (fun i => .bool (M.rnd F r i)) ∧ Below (B + 1) W1 wr
def inI (W2 : World) (B mb nbk n : Nat) (S : Nat → Bool) (iv : Value) (wr : World) : Prop :=
  ∃ k : Nat, k ≤ n ∧ iv = .int .i64 (k : Int) ∧ wr.rowIs nbk 4 n (bhalf S k) ∧ Below nbk W2 wr

theorem rowIs_lt {w : World} {b n : Nat} {t : TypeId} {f : Nat → Value} (h : w.rowIs b t n f) : b < w.heap.size := by
  obtain ⟨c, h, _⟩ := h
  exact (Array.getElem?_eq_some_iff.1 h).1
theorem rowIs_bools {w : World} {b n : Nat} {t : TypeId} {S : Nat → Bool} (h : w.rowIs b t n (fun i => .bool (S i))) : BoolsA w b 0 n S := fun i hi => by rw [Nat.zero_add]; exact h.cell hi

/-- What the specification's Nullable answers for a valid grammar. -/
structure NulIs (g : Gr) (w : World) (e : Ending) (w' : World) : Prop where
  val : ∃ b, w.heap.size ≤ b ∧ e = .returned (.slice (some ⟨b, 0, none⟩) (g.nr + g.nb) (g.nr + g.nb)) ∧ w'.rowIs b 4 (g.nr + g.nb) (fun i => .bool (M.rnd (nullF g) (g.nr + g.nb) i))
  bel : Below w.heap.size w w'

theorem l3null_n (Q : Nat → Prop) (ra la a : Option Addr) (nr rc nb lc n c N : Nat) (B : Nat → OpD) (mb mo mc : Nat) (mk : Nat → Bool) (w : World) (hN : nr + nb = N) (h1 : nr ≤ 100) (h2 : nb ≤ 100) (hn : n ≤ 1048576) (hc : n ≤ c) (hB : OpsA Q w a n B) (hok : n = 0 ∨ M.BodyOK nr nb n B) (hM : BoolsA w mb mo N mk) :
    Calls Try.prog 98 #[.agg #[.slice ra nr rc, .slice la nb lc], .slice a n c, .slice (some ⟨mb, mo, none⟩) N mc] w (Gives1 (M.nulB nr mk n B) w) := by
  subst hN
  exact l3null_body Q ra la a nr rc nb lc n c B mb mo mc mk w h1 h2 hn hc hB hok hM

set_option maxRecDepth 100000 in
set_option maxHeartbeats 8000000 in
theorem l3nullable_any (Q : Nat → Prop) (ra la : Option Addr) (rc lc : Nat) (g : Gr) (w : World) (hG : GramX Q w ra la g) (hV : M.Valid g) (hs : ∀ p, p < g.nr + g.nb → (nd g p).bl ≤ 1048576) :
    Calls Try.prog 60 #[.agg #[.slice ra g.nr rc, .slice la g.nb lc]] w (NulIs g w) := by
  have h1 := hV.r2
  have h2 := hV.l2
  have HG : Hid (GramX Q w ra la g) := hG
  have HV : Hid (M.Valid g) := hV
  have HS : Hid (∀ p, p < g.nr + g.nb → (nd g p).bl ≤ 1048576) := hs
  obtain ⟨n, hn⟩ : ∃ n, g.nr + g.nb = n := ⟨_, rfl⟩
  have HN : Hid (g.nr + g.nb = n) := hn
  have hn2 : n ≤ 200 := by omega
  have hmk := run_make_row' (P := Try.prog) 44 4 (.bool false) 1 Try.underlying44 info4 rfl .i64 .i64 n (by omega) (by omega)
  clear hG hV hs hn
  go_enter Try.func60, Try.ntmps60
  go_wp2_with fail
  refine (l3nodes_any ra la g.nr rc g.nb lc _ h1 h2).mono ?_
  rintro e W1 ⟨rfl, hb⟩
  rw [HN.out]
  have g0 := cell_on (a := ⟨w.heap.size, 0, none⟩) (v := .slice ra g.nr rc) (cN w.heap.size rfl rfl) hb
  have g1 := cell_on (a := ⟨w.heap.size, 1, none⟩) (v := .slice la g.nb lc) (cN w.heap.size rfl rfl) hb
  have B1 : Hid (Below w.heap.size w W1) := bel_tr (bel1 w _) hb
  have s1 : w.heap.size < W1.heap.size := by have := hb.size; simp at this; omega
  clear hb
  go_wp2
  go_loopw [4, 5] (fun mv rv wr => outI W1 w.heap.size n (nullF g) mv rv wr) (fun _ rv _ => n - (intOf rv).toNat)
  case atStart => exact ⟨0, W1.heap.size, Nat.zero_le _, rfl, rfl, s1, (World.rowIs_made W1 _ n 4).congr fun i _ => rfl, (Below.refl _ W1).alloc (by omega) _⟩
  case round =>
    obtain ⟨r, mb, hr, rfl, rfl, hmb, hrow, hbel⟩ := hrel
    have hbw : Below w.heap.size w wr := B1.out.trans (hbel.mono (by omega))
    have k0 : wr.cell? ⟨w.heap.size, 0, none⟩ = some (.slice ra g.nr rc) := (hbel.cell (p := ⟨w.heap.size, 0, none⟩) (Nat.lt_succ_self _)).trans g0
    have k1 : wr.cell? ⟨w.heap.size, 1, none⟩ = some (.slice la g.nb lc) := (hbel.cell (p := ⟨w.heap.size, 1, none⟩) (Nat.lt_succ_self _)).trans g1
    have HROW : Hid (wr.rowIs mb 4 n (fun i => .bool (M.rnd (nullF g) r i))) := hrow
    have lmb := rowIs_lt hrow
    have HBW : Hid (Below w.heap.size w wr) := hbw
    have HBE : Hid (Below (w.heap.size + 1) W1 wr) := hbel
    clear hrow hbel hbw
    by_cases hlt : r < n
    · obtain ⟨V, eV⟩ : ∃ V, wr = V := ⟨_, rfl⟩
      subst wr
      go_wp2
      have m0 : (V.alloc (.cells (madeCells #[.bool false] n) 4)).cell? ⟨w.heap.size, 0, none⟩ = some (.slice ra g.nr rc) := cellOn _ k0
      have m1 : (V.alloc (.cells (madeCells #[.bool false] n) 4)).cell? ⟨w.heap.size, 1, none⟩ = some (.slice la g.nb lc) := cellOn _ k1
      have R1 : Hid ((V.alloc (.cells (madeCells #[.bool false] n) 4)).rowIs mb 4 n (fun i => .bool (M.rnd (nullF g) r i))) := HROW.out.of_block (Below.heap_alloc _ _ _ lmb)
      have R2 : Hid ((V.alloc (.cells (madeCells #[.bool false] n) 4)).rowIs V.heap.size 4 n (bhalf (nullF g (M.rnd (nullF g) r)) 0)) := (World.rowIs_made V _ n 4).congr fun i _ => by simp [bhalf]
      have B2 : Hid (Below V.heap.size V (V.alloc (.cells (madeCells #[.bool false] n) 4))) := bel1 V _
      generalize V.alloc (.cells (madeCells #[.bool false] n) 4) = W2 at *
      obtain ⟨nbk, hnb⟩ : ∃ x, V.heap.size = x := ⟨_, rfl⟩
      have HNB : Hid (V.heap.size = nbk) := hnb
      have l2 := rowIs_lt R2.out
      rw [hnb] at l2 lmb
      rw [hnb] at R2
      rw [hnb]
      clear hnb
      go_loopw [7] (fun iv wr => inI W2 w.heap.size mb nbk n (nullF g (M.rnd (nullF g) r)) iv wr) (fun iv _ => n - (intOf iv).toNat)
      case atStart => exact ⟨0, Nat.zero_le _, rfl, R2.out, Below.refl _ _⟩
      case round =>
        obtain ⟨k, hk, rfl, hrow, hbel⟩ := hrel
        have HR : Hid (wr.rowIs nbk 4 n (bhalf (nullF g (M.rnd (nullF g) r)) k)) := hrow
        have HB2 : Hid (Below nbk W2 wr) := hbel
        have lnb := rowIs_lt hrow
        have j0 : wr.cell? ⟨w.heap.size, 0, none⟩ = some (.slice ra g.nr rc) := (hbel.cell (p := ⟨w.heap.size, 0, none⟩) (Nat.lt_trans hmb lmb)).trans m0
        have j1 : wr.cell? ⟨w.heap.size, 1, none⟩ = some (.slice la g.nb lc) := (hbel.cell (p := ⟨w.heap.size, 1, none⟩) (Nat.lt_trans hmb lmb)).trans m1
        have RM : Hid (wr.rowIs mb 4 n (fun i => .bool (M.rnd (nullF g) r i))) := R1.out.of_block (hbel.block mb lmb)
        have BW2 : Hid (Below w.heap.size w wr) := (HBW.out.trans (B2.out.mono HBW.out.size)).trans (hbel.mono (by omega))
        have lw : w.heap.size < wr.heap.size := lt_of_cell j0
        clear hrow hbel
        by_cases hlk : k < n
        · have hc := HR.out.cell hlk
          have hf := HR.out.frozen k
          go_wp2
          go_region_with (first | (go_at_call 66; refine (l3body_any Q ra la rc lc g _ (HG.out.later BW2.out.drew) h1 h2 k (by have := HN.out; omega)).mono ?_; rintro e W3 ⟨⟨ba, bc, rfl, hO, hcap⟩, hb3⟩; have BD : Below wr.heap.size wr W3 := (Below.refl _ wr).drew.trans hb3; have i0 := cell_on j0 BD; have i1 := cell_on j1 BD; have B3 : Hid (Below wr.heap.size wr W3) := BD; have HO3 : Hid (OpsA Q W3 ba (nd g k).bl (nd g k).body) := hO; have HCAP : Hid ((nd g k).bl ≤ bc) := hcap; clear BD hb3 hO hcap) | (go_at_call 98; refine (l3null_n Q ra la ba g.nr rc g.nb lc (nd g k).bl bc n (nd g k).body mb 0 n (M.rnd (nullF g) r) _ HN.out h1 h2 (HS.out k (by have := HN.out; omega)) HCAP.out HO3.out (valid_node HV.out (by have := HN.out; omega)) (rowIs_bools (RM.out.of_block (B3.out.block mb (by omega))))).mono ?_; rintro e W4 ⟨rfl, hb4⟩; have B4 : Hid (Below wr.heap.size wr W4) := bel_tr B3.out hb4; have R4 : Hid (W4.rowIs nbk 4 n (bhalf (nullF g (M.rnd (nullF g) r)) k)) := HR.out.of_block (B4.out.block nbk lnb); have hc4 := R4.out.cell hlk; have hf4 := R4.out.frozen k; clear hb4))
          all_goals go_wp2
          all_goals go_roundw
          all_goals first
            | exact ⟨k + 1, by omega, by go_num, bhalf_step R4.out rfl, (HB2.out.trans (B4.out.mono (by omega))).setCell (p := ⟨nbk, k, none⟩) (Nat.le_refl _) _⟩
            | (simp [intOf]; omega)
        · obtain rfl : k = n := by omega
          go_wp2
          go_roundw
          case rel => exact ⟨r + 1, nbk, by omega, by go_num, rfl, by omega, bhalf_full HR.out, HBE.out.trans ((B2.out.mono (by have := HBE.out.size; omega)).trans (HB2.out.mono (by omega)))⟩
          case measure => simp [intOf]; omega
    · obtain rfl : r = n := by omega
      go_wp2
      go_ret
      exact ⟨⟨mb, by omega, by rw [HN.out]; rfl, by rw [HN.out]; exact HROW.out⟩, HBW.out⟩

theorem nd_small {g : Gr} (h : SmallG g) (p : Nat) (hp : p < g.nr + g.nb) : (nd g p).bl ≤ 1048576 := by
  unfold nd
  split
  · exact (h.rule p (by omega)).body.1
  · exact (h.lab (p - g.nr) (by omega)).body.1

/-- What the specification's Nullable answers. -/
structure NullIs (g : Gr) (w : World) (e : Ending) (w' : World) : Prop where
  val : (M.Valid g ∧ ∃ b, w.heap.size ≤ b ∧ e = .returned (.slice (some ⟨b, 0, none⟩) (g.nr + g.nb) (g.nr + g.nb)) ∧ w'.rowIs b 4 (g.nr + g.nb) (fun i => .bool (M.rnd (nullF g) (g.nr + g.nb) i))) ∨ (¬ M.Valid g ∧ e = .returned (.slice none 0 0))
  bel : Below w.heap.size w w'

set_option maxHeartbeats 2000000 in
theorem snullable_any (Q : Nat → Prop) (ra la : Option Addr) (rc lc : Nat) (g : Gr) (w : World) (hG : GramX Q w ra la g) (hs : SmallG g) :
    Calls Try.prog 26 #[.agg #[.slice ra g.nr rc, .slice la g.nb lc]] w (NullIs g w) := by
  have HG : Hid (GramX Q w ra la g) := hG
  have HS : Hid (SmallG g) := hs
  clear hG hs
  go_enter Try.func26, Try.ntmps26
  go_wp2_with fail
  refine (svalid_any Q ra la rc lc g _ (HG.out.plain.later (bel1 w _)) HS.out).mono ?_
  rintro e W1 ⟨⟨r, rfl, hr⟩, hb⟩
  have g0 := cell_on (a := ⟨w.heap.size, 0, none⟩) (v := .slice ra g.nr rc) (cN w.heap.size rfl rfl) hb
  have g1 := cell_on (a := ⟨w.heap.size, 1, none⟩) (v := .slice la g.nb lc) (cN w.heap.size rfl rfl) hb
  have B1 : Hid (Below w.heap.size w W1) := bel_tr (bel1 w _) hb
  clear hb
  cases r with
  | false =>
    have HV : Hid (¬ M.Valid g) := fun q => absurd (hr.2 q) (by decide)
    clear hr
    go_wp2
    go_ret
    exact ⟨.inr ⟨HV.out, rfl⟩, B1.out⟩
  | true =>
    have HV : Hid (M.Valid g) := hr.1 rfl
    clear hr
    go_wp2_with fail
    refine (l3nullable_any Q ra la rc lc g _ (HG.out.later B1.out) HV.out (nd_small HS.out)).mono ?_
    rintro e W2 ⟨⟨b, hb, rfl, hrow⟩, hbel⟩
    have B2 : Hid (Below w.heap.size w W2) := bel_tr B1.out hbel
    have HR : Hid (W2.rowIs b 4 (g.nr + g.nb) (fun i => .bool (M.rnd (nullF g) (g.nr + g.nb) i))) := hrow
    have hs1 := B1.out.size
    clear hbel hrow
    go_wp2
    go_ret
    exact ⟨.inl ⟨HV.out, b, by omega, rfl, HR.out⟩, B2.out⟩

end Go.Proofs.Ytjpcojabdjldbaa
