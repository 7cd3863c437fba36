/-
  Walks: the specification's Check.
-/
import Derived.Test.YtjpcojabdjldbaaSParts
namespace Go.Proofs.Ytjpcojabdjldbaa
open Go.RowKit
open M (OpD NodeD Gr)
set_option linter.unusedVariables false
set_option linter.unusedSimpArgs false

def kI (W5 : World) (sb : Nat) (rb : Nat → Nat) (n : Nat) (R : Nat → Nat → Bool) (kv : Value) (wr : World) : Prop :=
  ∃ (k : Nat) (T : Nat → Nat → Bool), k ≤ n ∧ kv = .int .i64 (k : Int) ∧ M.Warsh R n k T ∧ Tab wr sb sb rb n n T ∧ Below (sb + 1) W5 wr
def iI (W5 : World) (sb : Nat) (rb : Nat → Nat) (n k : Nat) (T : Nat → Nat → Bool) (iv : Value) (wr : World) : Prop :=
  ∃ (i : Nat) (T' : Nat → Nat → Bool), i ≤ n ∧ iv = .int .i64 (i : Int) ∧ Rws T T' n k i ∧ Tab wr sb sb rb n n T' ∧ Below (sb + 1) W5 wr
def jI (W5 : World) (sb : Nat) (rb : Nat → Nat) (n k i : Nat) (T : Nat → Nat → Bool) (jv : Value) (wr : World) : Prop :=
  ∃ (j : Nat) (T' : Nat → Nat → Bool), j ≤ n ∧ jv = .int .i64 (j : Int) ∧ Col T T' i k j ∧ Tab wr sb sb rb n n T' ∧ Below (sb + 1) W5 wr
def seI (W6 : World) (n : Nat) (P : Nat → Prop) (iv : Value) (wr : World) : Prop :=
  ∃ k : Nat, k ≤ n ∧ iv = .int .i64 (k : Int) ∧ (∀ q, q < k → ¬ P q) ∧ wr = W6
def lkI (W6 : World) (n : Nat) (P : Nat → Prop) (iv : Value) (wr : World) : Prop :=
  ∃ k : Nat, k ≤ n ∧ iv = .int .i64 (k : Int) ∧ (∀ q, q < k → ¬ P q) ∧ Below W6.heap.size W6 wr

set_option maxRecDepth 100000 in
set_option maxHeartbeats 16000000 in
theorem scheck_any (Q : Nat → Prop) (ra la : Option Addr) (rc lc : Nat) (g : Gr) (w : World) (hG : GramX Q w ra la g) (hs : SmallG g) :
    Calls Try.prog 31 #[.agg #[.slice ra g.nr rc, .slice la g.nb lc]] w (ChkIs g w) := by
  have HG : Hid (GramX Q w ra la g) := hG
  have HS : Hid (SmallG g) := hs
  clear hG hs
  go_enter Try.func31, Try.ntmps31
  go_wp2_with fail
  refine (svalid_any Q ra la rc lc g _ (HG.out.plain.later (bel1 w _)) HS.out).mono ?_
  rintro e W1 ⟨⟨r, rfl, hr⟩, hb⟩
  have g0 := cell_on (a := ⟨w.heap.size, 0, none⟩) (v := .slice ra g.nr rc) (cN w.heap.size rfl rfl) hb
  have g1 := cell_on (a := ⟨w.heap.size, 1, none⟩) (v := .slice la g.nb lc) (cN w.heap.size rfl rfl) hb
  have B1 : Hid (Below w.heap.size w W1) := bel_tr (bel1 w _) hb
  clear hb
  cases r with
  | false =>
    have HV : Hid (¬ M.Valid g) := fun q => absurd (hr.2 q) (by decide)
    clear hr
    go_wp2
    refine bodyPost_ret (by simp [results, Try.f31, go_sem]; rfl) rfl ?_
    exact ⟨⟨4, 0, .bad HV.out, rfl⟩, B1.out⟩
  | true =>
    have HV : Hid (M.Valid g) := hr.1 rfl
    clear hr
    have h1 := HV.out.r2
    have h2 := HV.out.l2
    have h0 := HV.out.r1
    obtain ⟨n, hn⟩ : ∃ n, g.nr + g.nb = n := ⟨_, rfl⟩
    have HN : Hid (g.nr + g.nb = n) := hn
    have hn2 : n ≤ 200 := by omega
    have hn1 : 0 < n := by omega
    clear hn
    go_wp2_with fail
    refine (l3nodes_any ra la g.nr rc g.nb lc _ h1 h2).mono ?_
    rintro e W2 ⟨rfl, hb⟩
    rw [HN.out]
    replace g0 := cell_on g0 hb
    replace g1 := cell_on g1 hb
    have B2 : Hid (Below w.heap.size w W2) := bel_tr B1.out hb
    clear hb
    go_wp2_with fail
    refine (l3nullable_any Q ra la rc lc g _ (HG.out.later B2.out) HV.out (nd_small HS.out)).mono ?_
    rintro e W3 ⟨⟨mb, hmb, rfl, hrow⟩, hb⟩
    rw [HN.out] at hrow
    rw [HN.out]
    replace g0 := cell_on g0 hb
    replace g1 := cell_on g1 hb
    have B3 : Hid (Below w.heap.size w W3) := bel_tr B2.out hb
    have HM : Hid (BoolsA W3 mb 0 n (S0 g).has) := fun i hi => by
      rw [Nat.zero_add, hrow.cell hi, S0_has HV.out (by have := HN.out; omega)]
      unfold mk0
      rw [HN.out]
    have lmb := rowIs_lt hrow
    have s3 : w.heap.size < W3.heap.size := lt_of_cell g0
    clear hb hrow hmb
    have hmk1 := run_make_row' (P := Try.prog) 89 44 (.slice none 0 0) 24 Try.underlying89 info44 rfl .i64 .i64 n (by omega) (by omega)
    have hmk2 := run_make_row' (P := Try.prog) 44 4 (.bool false) 1 Try.underlying44 info4 rfl .i64 .i64 n (by omega) (by omega)
    go_wp2
    have G0 : (W3.alloc (.cells (madeCells #[.slice none 0 0] n) 44)).cell? ⟨w.heap.size, 0, none⟩ = some (.slice ra g.nr rc) := cellOn _ g0
    have G1 : (W3.alloc (.cells (madeCells #[.slice none 0 0] n) 44)).cell? ⟨w.heap.size, 1, none⟩ = some (.slice la g.nb lc) := cellOn _ g1
    have R4 : Hid ((W3.alloc (.cells (madeCells #[.slice none 0 0] n) 44)).rowIs W3.heap.size 44 n (heads (fun _ => 0) n 0)) := (World.rowIs_made W3 _ n 44).congr (fun i _ => by simp [heads])
    have B34 : Hid (Below W3.heap.size W3 (W3.alloc (.cells (madeCells #[.slice none 0 0] n) 44))) := bel1 W3 _
    generalize W3.alloc (.cells (madeCells #[.slice none 0 0] n) 44) = W4 at *
    have B4 : Hid (Below w.heap.size w W4) := bel_tr B3.out B34.out
    obtain ⟨sb, hsb⟩ : ∃ x, W3.heap.size = x := ⟨_, rfl⟩
    have HSB : Hid (W3.heap.size = sb) := hsb
    have HG3 : Hid (GramX Q W3 ra la g) := HG.out.later B3.out
    rw [hsb] at R4 lmb s3
    rw [hsb]
    clear hsb g0 g1 hmk1
    go_loopw [7] (fun iv wr => stI W4 sb n (RU (UB g)) iv wr) (fun iv _ => n - (intOf iv).toNat)
    case atStart => exact ⟨0, fun _ => 0, Nat.zero_le _, rfl, ⟨R4.out, fun i hi => absurd hi (Nat.not_lt_zero _), fun i j hi => absurd hi (Nat.not_lt_zero _), fun i hi => absurd hi (Nat.not_lt_zero _)⟩, Below.refl _ _⟩
    case round =>
      obtain ⟨k, rb, hk, rfl, hrs, hbel⟩ := hrel
      have HRS : Hid (Rows1 wr sb rb k n (RU (UB g))) := hrs
      have HBE : Hid (Below sb W4 wr) := hbel
      have j0 : wr.cell? ⟨w.heap.size, 0, none⟩ = some (.slice ra g.nr rc) := (hbel.cell (p := ⟨w.heap.size, 0, none⟩) (show w.heap.size < sb by omega)).trans G0
      have j1 : wr.cell? ⟨w.heap.size, 1, none⟩ = some (.slice la g.nb lc) := (hbel.cell (p := ⟨w.heap.size, 1, none⟩) (show w.heap.size < sb by omega)).trans G1
      have lsb := rowIs_lt hrs.head
      clear hrs hbel
      by_cases hlt : k < n
      · have hc := HRS.out.head.cell hlt
        have hf := HRS.out.head.frozen k
        go_wp2
        have x0 : ((wr.setCell ⟨sb, k, none⟩ (.slice (some ⟨wr.heap.size, 0, none⟩) n n)).alloc (.cells (madeCells #[.bool false] n) 4)).cell? ⟨w.heap.size, 0, none⟩ = some (.slice ra g.nr rc) := cellOn _ ((cell_set_far (show sb ≠ w.heap.size by omega)).trans j0)
        have x1 : ((wr.setCell ⟨sb, k, none⟩ (.slice (some ⟨wr.heap.size, 0, none⟩) n n)).alloc (.cells (madeCells #[.bool false] n) 4)).cell? ⟨w.heap.size, 1, none⟩ = some (.slice la g.nb lc) := cellOn _ ((cell_set_far (show sb ≠ w.heap.size by omega)).trans j1)
        have xs : ((wr.setCell ⟨sb, k, none⟩ (.slice (some ⟨wr.heap.size, 0, none⟩) n n)).alloc (.cells (madeCells #[.bool false] n) 4)).cell? ⟨sb, k, none⟩ = some (.slice (some ⟨wr.heap.size, 0, none⟩) n n) := cellOn _ (cell_set_same hc)
        have X1 : Hid (((wr.setCell ⟨sb, k, none⟩ (.slice (some ⟨wr.heap.size, 0, none⟩) n n)).alloc (.cells (madeCells #[.bool false] n) 4)).rowIs sb 44 n (heads (fun i => if i = k then wr.heap.size else rb i) n (k + 1))) := (heads_step HRS.out.head).alloc _
        have X2 : Hid (∀ i, i < k → ((wr.setCell ⟨sb, k, none⟩ (.slice (some ⟨wr.heap.size, 0, none⟩) n n)).alloc (.cells (madeCells #[.bool false] n) 4)).rowIs (rb i) 4 n (fun j => .bool (RU (UB g) i j))) := fun i hi => ((HRS.out.row i hi).setOther (a := ⟨sb, k, none⟩) (show rb i ≠ sb by have := HRS.out.off i hi; omega) _).alloc _
        have X3 : Hid (((wr.setCell ⟨sb, k, none⟩ (.slice (some ⟨wr.heap.size, 0, none⟩) n n)).alloc (.cells (madeCells #[.bool false] n) 4)).rowIs wr.heap.size 4 n (fun j => .bool ((fun _ => false) j))) := by
          have := World.rowIs_made (wr.setCell ⟨sb, k, none⟩ (.slice (some ⟨wr.heap.size, 0, none⟩) n n)) (.bool false) n 4
          rw [size_set] at this
          exact this
        have BX : Hid (Below sb W4 ((wr.setCell ⟨sb, k, none⟩ (.slice (some ⟨wr.heap.size, 0, none⟩) n n)).alloc (.cells (madeCells #[.bool false] n) 4))) := (HBE.out.setCell (p := ⟨sb, k, none⟩) (Nat.le_refl _) _).alloc (by rw [size_set]; omega) _
        have XO : Hid (∀ i, i < k → rb i < wr.heap.size) := fun i hi => rowIs_lt (HRS.out.row i hi)
        obtain ⟨ob, hob⟩ : ∃ x, wr.heap.size = x := ⟨_, rfl⟩
        generalize (wr.setCell ⟨sb, k, none⟩ (.slice (some ⟨wr.heap.size, 0, none⟩) n n)).alloc (.cells (madeCells #[.bool false] n) 4) = X at *
        rw [hob] at X1 X3 XO xs lsb
        rw [hob]
        clear hob hc hf j0 j1
        have HO : Hid (W3.heap.size ≤ ob) := by show _ ≤ _; have := HSB.out; omega
        have BVX : Hid (Below W3.heap.size W3 X) := B34.out.trans (BX.out.mono (by have := HSB.out; omega))
        have lX : ob < X.heap.size := rowIs_lt X3.out
        go_region_with (first | (go_at_call 66; refine (l3body_base Q W3 ra la rc lc g _ HG3.out BVX.out.drew h1 h2 k (by have := HN.out; omega)).mono ?_; rintro e W6 ⟨⟨ba, bc, rfl, hO, hcap⟩, hb6⟩; have BD : Below X.heap.size X W6 := (Below.refl _ X).drew.trans hb6; have i0 := cell_on x0 BD; have i1 := cell_on x1 BD; have is := cell_on xs BD; have B6 : Hid (Below X.heap.size X W6) := BD; have HO6 : Hid (OpsA Q W3 ba (nd g k).bl (nd g k).body) := hO; have HCAP : Hid ((nd g k).bl ≤ bc) := hcap; clear BD hb6 hO hcap) | (go_at_call 65; refine (l3begins_body Q W3 ra la ba g.nr rc g.nb lc (nd g k).bl bc n (nd g k).body mb 0 n ob n (S0 g) (fun _ => false) _ HN.out h1 h2 (nd_small HS.out k (by have := HN.out; omega)) HCAP.out HO6.out (valid_node HV.out (by have := HN.out; omega)) HM.out HO.out (BVX.out.trans (B6.out.mono BVX.out.size)) (keep_row X3.out B6.out)).mono ?_; rintro e W7 ⟨⟨v, rfl⟩, hr7, hk7⟩; have HR7 : Hid (W7.rowIs ob 4 n (fun j => .bool (false || (M.top (M.stk (valO g.nr (S0 g)) (nd g k).body (nd g k).bl)).beg.has j))) := hr7; have HK7 : Hid (Keep (fun x => x = ob) X W7) := (keep_bel B6.out).trans hk7; clear hr7 hk7))
        all_goals go_wp2
        all_goals go_roundw
        all_goals first
          | (refine ⟨k + 1, fun i => if i = k then ob else rb i, by omega, by go_num, ⟨X1.out.of_block (HK7.out.block _ (by omega) (show ¬ (sb = ob) by omega)), fun i hi => ?_, fun i j hi hj q => ?_, fun i hi => ?_⟩, BX.out.trans (HK7.out.below (by omega) (fun x hx => by omega))⟩
             · by_cases e : i = k
               · subst e
                 simp only [if_true]
                 exact row_or HR7.out (fun j hj => by unfold RU UB; rw [if_pos (by have := HN.out; omega)]; simp only [Bool.false_or]; rfl)
               · simp only [if_neg e]
                 have := XO.out i (by omega)
                 exact (X2.out i (by omega)).of_block (HK7.out.block _ (by omega) (show ¬ (rb i = ob) by omega))
             · by_cases e : i = k
               · by_cases e' : j = k
                 · omega
                 · simp only [if_pos e, if_neg e'] at q
                   have := XO.out j (by omega)
                   omega
               · by_cases e' : j = k
                 · simp only [if_neg e, if_pos e'] at q
                   have := XO.out i (by omega)
                   omega
                 · simp only [if_neg e, if_neg e'] at q
                   exact HRS.out.inj i j (by omega) (by omega) q
             · by_cases e : i = k
               · simp only [if_pos e]; omega
               · simp only [if_neg e]; exact HRS.out.off i (by omega))
          | (simp [intOf]; omega)
      · obtain rfl : k = n := by omega
        have HT : Hid (Tab wr sb sb rb k k (RU (UB g))) := HRS.out.tab
        clear HRS R4
        obtain ⟨W5, eW⟩ : ∃ V, wr = V := ⟨_, rfl⟩
        subst wr
        go_wp2
        go_loopw [8] (fun kv wr => kI W5 sb rb k (RU (UB g)) kv wr) (fun kv _ => k - (intOf kv).toNat)
        case atStart => exact ⟨0, _, Nat.zero_le _, rfl, M.Warsh.start, HT.out, Below.refl _ _⟩
        case round =>
          obtain ⟨q, T, hq, rfl, hW, hT, hbel⟩ := hrel
          have HW : Hid (M.Warsh (RU (UB g)) k q T) := hW
          have HT1 : Hid (Tab wr sb sb rb k k T) := hT
          have HB1 : Hid (Below (sb + 1) W5 wr) := hbel
          clear hW hT hbel
          by_cases hlt : q < k
          · go_wp2
            go_loopw [9] (fun iv wr => iI W5 sb rb k q T iv wr) (fun iv _ => k - (intOf iv).toNat)
            case atStart => exact ⟨0, T, Nat.zero_le _, rfl, Rws.zero T k q, HT1.out, HB1.out⟩
            case round =>
              obtain ⟨i, T1, hi, rfl, hR, hT1, hb1⟩ := hrel
              have HR : Hid (Rws T T1 k q i) := hR
              have HT2 : Hid (Tab wr sb sb rb k k T1) := hT1
              have HB2 : Hid (Below (sb + 1) W5 wr) := hb1
              clear hR hT1 hb1
              by_cases hli : i < k
              · go_wp2
                go_loopw [10] (fun jv wr => jI W5 sb rb k q i T1 jv wr) (fun jv _ => k - (intOf jv).toNat)
                case atStart => exact ⟨0, T1, Nat.zero_le _, rfl, Col.zero T1 i q, HT2.out, HB2.out⟩
                case round =>
                  obtain ⟨j, T2, hj, rfl, hC, hT2, hb2⟩ := hrel
                  have HC : Hid (Col T1 T2 i q j) := hC
                  have HT3 : Hid (Tab wr sb sb rb k k T2) := hT2
                  have HB3 : Hid (Below (sb + 1) W5 wr) := hb2
                  have e1 : Hid (T2 i q = T1 i q) := hC.ik
                  have e2 : Hid (T2 q j = T1 q j) := hC.kj
                  have c1 := hT2.head i hli
                  have c2 := hT2.cell hli hlt
                  have c3 := hT2.head q hlt
                  have l1 : sb < wr.heap.size := lt_of_cell c1
                  have l2 : rb i < wr.heap.size := lt_of_cell c2
                  clear hC hT2 hb2
                  by_cases hlj : j < k
                  · have c4 := HT3.out.cell hlt hlj
                    have l3 : rb q < wr.heap.size := lt_of_cell c4
                    cases hiq : T2 i q with
                    | true =>
                      rw [hiq] at c2
                      have HIQ : Hid (T1 i q = true) := e1.out ▸ hiq
                      cases hqj : T2 q j with
                      | true =>
                        rw [hqj] at c4
                        have HQJ : Hid (T1 q j = true) := e2.out ▸ hqj
                        have c5 := HT3.out.cell hli hlj
                        have c6 := HT3.out.soft hli j
                        clear hiq hqj
                        go_wp2
                        go_roundw
                        case rel => exact ⟨j + 1, upT T2 i j, by omega, by go_num, HC.out.put HQJ.out HIQ.out, HT3.out.set hli j, HB3.out.setCell (p := ⟨rb i, j, none⟩) (HT3.out.off i hli) _⟩
                        case measure => simp [intOf]; omega
                      | false =>
                        rw [hqj] at c4
                        have HQJ : Hid (T1 q j = false) := e2.out ▸ hqj
                        clear hiq hqj
                        go_wp2
                        go_roundw
                        case rel => exact ⟨j + 1, T2, by omega, by go_num, HC.out.skip HQJ.out, HT3.out, HB3.out⟩
                        case measure => simp [intOf]; omega
                    | false =>
                      rw [hiq] at c2
                      have HIQ : Hid (T1 i q = false) := e1.out ▸ hiq
                      clear hiq
                      go_wp2
                      go_roundw
                      case rel => exact ⟨i + 1, T2, by omega, by go_num, Rws.step hlt HR.out HC.out (.inr HIQ.out), HT3.out, HB3.out⟩
                      case measure => simp [intOf]; omega
                  · have hjk : j = k := by omega
                    have HJ : Hid (j = k) := hjk
                    clear hjk
                    go_wp2
                    go_roundw
                    case rel => exact ⟨i + 1, T2, by omega, by go_num, Rws.step hlt HR.out HC.out (.inl HJ.out), HT3.out, HB3.out⟩
                    case measure => simp [intOf]; omega
              · have hik : i = k := by omega
                subst hik
                go_wp2
                go_roundw
                case rel => exact ⟨q + 1, T1, by omega, by go_num, Rws.done HW.out hlt HR.out, HT2.out, HB2.out⟩
                case measure => simp [intOf]; omega
          · have hqk : q = k := by omega
            subst hqk
            obtain ⟨W6, eW⟩ : ∃ V, wr = V := ⟨_, rfl⟩
            subst wr
            have HNW : Hid (∀ i, i < q → (T i i = true ↔ LB g i)) := fun i hi => by
              have := HW.out i i hi hi
              rw [this]
              unfold LB
              rw [HN.out]
            have y0 : W6.cell? ⟨w.heap.size, 0, none⟩ = some (.slice ra g.nr rc) := (HB1.out.cell (p := ⟨w.heap.size, 0, none⟩) (show w.heap.size < sb + 1 by omega)).trans j0
            have y1 : W6.cell? ⟨w.heap.size, 1, none⟩ = some (.slice la g.nb lc) := (HB1.out.cell (p := ⟨w.heap.size, 1, none⟩) (show w.heap.size < sb + 1 by omega)).trans j1
            have BE6 : Hid (Below sb W4 W6) := HBE.out.trans (HB1.out.mono (by omega))
            have BV6 : Hid (Below W3.heap.size W3 W6) := B34.out.trans (BE6.out.mono (by have := HSB.out; omega))
            have BW6 : Hid (Below w.heap.size w W6) := B3.out.trans (BV6.out.mono B3.out.size)
            clear HW HBE HB1 j0 j1 HT B34 G0 G1
            go_wp2
            go_loopw [11] (fun iv wr => seI W6 q (LB g) iv wr) (fun iv _ => q - (intOf iv).toNat)
            case atStart => exact ⟨0, Nat.zero_le _, rfl, fun _ h => absurd h (Nat.not_lt_zero _), rfl⟩
            case round =>
              obtain ⟨i, hi, rfl, hno, hwr⟩ := hrel
              subst wr
              have HNO : Hid (∀ x, x < i → ¬ LB g x) := hno
              clear hno
              by_cases hlt : i < q
              · have c1 := HT1.out.head i hlt
                have c2 := HT1.out.cell hlt hlt
                have l1 : sb < W6.heap.size := lt_of_cell c1
                have l2 : rb i < W6.heap.size := lt_of_cell c2
                cases hii : T i i with
                | true =>
                  rw [hii] at c2
                  have HA : Hid (Ans g 8 i) := .ok HV.out (by rw [HN.out]; exact .left i hlt ((HNW.out i hlt).1 hii) HNO.out)
                  clear hii
                  go_wp2
                  refine bodyPost_ret (by simp [results, Try.f31, go_sem]; rfl) rfl ?_
                  exact ⟨⟨8, i, HA.out, rfl⟩, BW6.out⟩
                | false =>
                  rw [hii] at c2
                  have HII : Hid (¬ LB g i) := fun h => by have := (HNW.out i hlt).2 h; rw [hii] at this; cases this
                  clear hii
                  go_wp2
                  go_roundw
                  case rel => exact ⟨i + 1, by omega, by go_num, fun x hx h => if e : x = i then HII.out (e ▸ h) else HNO.out x (by omega) h, rfl⟩
                  case measure => simp [intOf]; omega
              · have hiq : i = q := by omega
                have HNL : Hid (∀ x, x < g.nr + g.nb → ¬ LB g x) := fun x hx => HNO.out x (by have := HN.out; omega)
                clear hiq HNO HNW HT1
                go_wp2
                go_loopw [12] (fun iv wr => lkI W6 q (OB g) iv wr) (fun iv _ => q - (intOf iv).toNat)
                case atStart => exact ⟨0, Nat.zero_le _, rfl, fun _ h => absurd h (Nat.not_lt_zero _), Below.refl _ _⟩
                case round =>
                  obtain ⟨p, hp, rfl, hno, hbel⟩ := hrel
                  have HNO : Hid (∀ x, x < p → ¬ OB g x) := hno
                  have HBE : Hid (Below W6.heap.size W6 wr) := hbel
                  have z0 := cell_on y0 hbel
                  have z1 := cell_on y1 hbel
                  have BV : Hid (Below W3.heap.size W3 wr) := BV6.out.trans (hbel.mono BV6.out.size)
                  have BW : Hid (Below w.heap.size w wr) := bel_tr BW6.out hbel
                  clear hno hbel
                  by_cases hlt2 : p < q
                  · have hND : Hid (NodeOK g p) := valid_node HV.out (by have := HN.out; omega)
                    go_wp2
                    go_region_with (first | (go_at_call 66; refine (l3body_base Q W3 ra la rc lc g _ HG3.out BV.out.drew h1 h2 p (by have := HN.out; omega)).mono ?_; rintro e W8 ⟨⟨ba, bc, rfl, hO, hcap⟩, hb8⟩; have BD : Below wr.heap.size wr W8 := (Below.refl _ wr).drew.trans hb8; have i0 := cell_on z0 BD; have i1 := cell_on z1 BD; have B8 : Hid (Below wr.heap.size wr W8) := BD; have HO8 : Hid (OpsA Q W3 ba (nd g p).bl (nd g p).body) := hO; have HCAP : Hid ((nd g p).bl ≤ bc) := hcap; clear BD hb8 hO hcap) | (go_at_call 67; refine (l3loops_n Q ra la ba g.nr rc g.nb lc (nd g p).bl bc q (nd g p).body mb 0 q (S0 g).has _ HN.out h1 h2 (nd_small HS.out p (by have := HN.out; omega)) HCAP.out (HO8.out.later (BV.out.trans (B8.out.mono BV.out.size))) hND.out (HM.out.later (BV.out.trans (B8.out.mono BV.out.size)))).mono ?_; rintro e W9 ⟨⟨r, rfl, hr⟩, hb9⟩; have B9 : Hid (Below wr.heap.size wr W9) := bel_tr B8.out hb9; have HRR : Hid (r = true ↔ OB g p) := hr.trans (OB_iff hND.out).symm; clear hb9 hr))
                    all_goals (cases r
                               · have HNB : Hid (¬ OB g p) := fun h => by have h9 := HRR.out.2 h; cases h9
                                 go_wp2
                                 go_roundw
                                 case rel => exact ⟨p + 1, by omega, by go_num, fun x hx h => if e : x = p then HNB.out (e ▸ h) else HNO.out x (by omega) h, bel_tr HBE.out B9.out⟩
                                 case measure => simp [intOf]; omega
                               · have HA : Hid (Ans g 9 p) := .ok HV.out (.loop p HNL.out (by have := HN.out; omega) (HRR.out.1 rfl) HNO.out)
                                 go_wp2
                                 refine bodyPost_ret (by simp [results, Try.f31, go_sem]; rfl) rfl ?_
                                 exact ⟨⟨9, p, HA.out, rfl⟩, bel_tr BW.out B9.out⟩)
                  · have hpq : p = q := by omega
                    have HA : Hid (Ans g 0 0) := .ok HV.out (.fine HNL.out (fun x hx => HNO.out x (by have := HN.out; omega)))
                    clear hpq
                    go_wp2
                    refine bodyPost_ret (by simp [results, Try.f31, go_sem]; rfl) rfl ?_
                    exact ⟨⟨0, 0, HA.out, rfl⟩, BW.out⟩

end Go.Proofs.Ytjpcojabdjldbaa
