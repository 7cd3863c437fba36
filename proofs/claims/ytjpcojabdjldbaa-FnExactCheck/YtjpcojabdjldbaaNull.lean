/-
  Walks: the program's Nullable.
-/
import Derived.Test.YtjpcojabdjldbaaNuN
import Derived.Test.YtjpcojabdjldbaaSNuB
namespace Go.Proofs.Ytjpcojabdjldbaa
open Go.RowKit
open M (OpD NodeD Gr)
set_option linter.unusedVariables false
set_option linter.unusedSimpArgs false

def nlI (W1 : World) (nbk n : Nat) (S : Nat → Bool) (iv : Value) (wr : World) : Prop :=
  ∃ k : Nat, k ≤ n ∧ iv = .int .i64 (k : Int) ∧ wr.rowIs nbk 4 n (bhalf S k) ∧ Below nbk W1 wr

set_option maxRecDepth 100000 in
set_option maxHeartbeats 8000000 in
theorem nullable_any (Q : Nat → Prop) (ra la : Option Addr) (rc lc : Nat) (g : Gr) (w : World) (hG : GramA Q w ra la g) (hs : SmallG g) (hval : M.Valid g → ValuesOK ra la g rc lc) :
    Calls Try.prog 27 #[.agg #[.slice ra g.nr rc, .slice la g.nb lc]] w (NullIs g w) := by
  have HG : Hid (GramA Q w ra la g) := hG
  have HS : Hid (SmallG g) := hs
  have HVAL : Hid (M.Valid g → ValuesOK ra la g rc lc) := hval
  clear hG hs hval
  go_enter Try.func27, Try.ntmps27
  go_wp2_with fail
  refine (validGrammar_any Q ra la rc lc g _ (HG.out.later (bel1 w _)) HS.out).mono ?_
  rintro e W1 ⟨⟨r, rfl, hr⟩, hb⟩
  have g0 := cell_on (a := ⟨w.heap.size, 0, none⟩) (v := .slice ra g.nr rc) (cN w.heap.size rfl rfl) hb
  have g1 := cell_on (a := ⟨w.heap.size, 1, none⟩) (v := .slice la g.nb lc) (cN w.heap.size rfl rfl) hb
  have B1 : Hid (Below w.heap.size w W1) := bel_tr (bel1 w _) hb
  clear hb
  cases r with
  | false =>
    have HV : Hid (¬ M.Valid g) := fun q => absurd (hr.2 q) (by decide)
    clear hr
    go_wp2
    go_ret
    exact ⟨.inr ⟨HV.out, rfl⟩, B1.out⟩
  | true =>
    have HV : Hid (M.Valid g) := hr.1 rfl
    clear hr
    have h1 := HV.out.r2
    have h2 := HV.out.l2
    have h0 := HV.out.r1
    go_wp2_with fail
    refine (bodiesOf_any Q ra la rc lc g _ (HG.out.later B1.out) h0 h1 h2).mono ?_
    rintro e W2 ⟨⟨b, cap, rfl, hB⟩, hb⟩
    replace g0 := cell_on g0 hb
    replace g1 := cell_on g1 hb
    have B2 : Hid (Below w.heap.size w W2) := bel_tr B1.out hb
    have HB : Hid (BodsA Q W2 b g (g.nr + g.nb)) := hB
    clear hb hB
    obtain ⟨n, hn⟩ : ∃ n, g.nr + g.nb = n := ⟨_, rfl⟩
    have HN : Hid (g.nr + g.nb = n) := hn
    rw [hn] at HB
    rw [hn]
    have hn2 : n ≤ 200 := by omega
    clear hn
    go_wp2_with fail
    refine (nullableNodes_any Q ra la rc lc g b n cap _ HV.out (nd_small HS.out) HN.out HB.out (HVAL.out HV.out)).mono ?_
    rintro e W3 ⟨⟨S, hS, hL, rfl⟩, hb⟩
    have B3 : Hid (Below w.heap.size w W3) := bel_tr B2.out hb
    have HSS : Hid S.OK := hS
    have hL' : M.Least n (nullF g) S.has := HN.out ▸ hL
    have hM : M.Mono n (nullF g) := HN.out ▸ nullF_mono HV.out
    have HEQ : Hid (∀ v, v < n → S.has v = M.rnd (nullF g) n v) := hL'.unique (M.rnd_least hM)
    have s3 := hb.size
    have s2 : w.heap.size < W2.heap.size := lt_of_cell g0
    clear hb hL hS hL' hM
    have hmk := run_make_row' (P := Try.prog) 44 4 (.bool false) 1 Try.underlying44 info4 rfl .i64 .i64 n (by omega) (by omega)
    have A4 : Hid (At (W3.alloc (nsc S)) W3.heap.size S) := At.new W3 S
    have B4 : Hid (Below w.heap.size w (W3.alloc (nsc S))) := B3.out.trans ((bel1 W3 _).mono B3.out.size)
    have s4 : Hid ((W3.alloc (nsc S)).heap.size = W3.heap.size + 1) := by show _ = _; simp
    go_wp2
    rw [show (Obj.cells #[.int .u64 S.a, .int .u64 S.b, .int .u64 S.c, .int .u64 S.d] 85) = nsc S from rfl]
    have A5 : Hid (At ((W3.alloc (nsc S)).alloc (.cells (madeCells #[.bool false] n) 4)) W3.heap.size S) := A4.out.later (bel1 _ _)
    have R5 : Hid (((W3.alloc (nsc S)).alloc (.cells (madeCells #[.bool false] n) 4)).rowIs (W3.heap.size + 1) 4 n (bhalf (M.rnd (nullF g) n) 0)) := by
      have := (World.rowIs_made (W3.alloc (nsc S)) (.bool false) n 4).congr (g := bhalf (M.rnd (nullF g) n) 0) (fun i _ => by simp [bhalf])
      rw [s4.out] at this
      exact this
    have B5 : Hid (Below w.heap.size w ((W3.alloc (nsc S)).alloc (.cells (madeCells #[.bool false] n) 4))) := B4.out.trans ((bel1 _ _).mono B4.out.size)
    generalize (W3.alloc (nsc S)).alloc (.cells (madeCells #[.bool false] n) 4) = W5 at *
    obtain ⟨sb, hsb⟩ : ∃ x, W3.heap.size = x := ⟨_, rfl⟩
    rw [hsb] at A5 R5
    have hws : w.heap.size ≤ sb := by have := B3.out.size; omega
    clear A4 B4 s4 hmk
    rw [hsb]
    clear hsb
    go_loopw [20] (fun iv wr => nlI W5 (sb + 1) n (M.rnd (nullF g) n) iv wr) (fun iv _ => n - (intOf iv).toNat)
    case atStart => exact ⟨0, Nat.zero_le _, rfl, R5.out, Below.refl _ _⟩
    case round =>
      obtain ⟨k, hk, rfl, hrow, hbel⟩ := hrel
      have HR : Hid (wr.rowIs (sb + 1) 4 n (bhalf (M.rnd (nullF g) n) k)) := hrow
      have HBE : Hid (Below (sb + 1) W5 wr) := hbel
      have AS : Hid (At wr sb S) := A5.out.keep (hbel.block _ (by omega))
      have HBW : Hid (Below w.heap.size w wr) := B5.out.trans (hbel.mono (by omega))
      obtain ⟨m0, m1, m2, m3⟩ := AS.out.cells
      have lr := rowIs_lt hrow
      have ls := AS.out.lt
      clear hrow hbel
      by_cases hlt : k < n
      · go_wp2_with (go_at_call 63; refine (has_ag S k _ HSS.out (by omega)).mono ?_; rintro e W ⟨rfl, hb⟩; have B6 : Hid (Below wr.heap.size wr W) := hb; have R6 : Hid (W.rowIs (sb + 1) 4 n (bhalf (M.rnd (nullF g) n) k)) := HR.out.of_block (hb.block _ lr); have hc := R6.out.cell hlt; have hf := R6.out.frozen k; clear hb)
        go_roundw
        case rel => exact ⟨k + 1, by omega, by go_num, bhalf_step R6.out (HEQ.out k hlt), (HBE.out.trans (B6.out.mono (by omega))).setCell (p := ⟨sb + 1, k, none⟩) (Nat.le_refl _) _⟩
        case measure => simp [intOf]; omega
      · obtain rfl : k = n := by omega
        go_wp2
        go_ret
        exact ⟨.inl ⟨HV.out, sb + 1, by omega, by rw [HN.out]; rfl, by rw [HN.out]; exact bhalf_full HR.out⟩, HBW.out⟩

end Go.Proofs.Ytjpcojabdjldbaa
