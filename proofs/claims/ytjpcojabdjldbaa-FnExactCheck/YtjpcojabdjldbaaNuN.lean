/-
  Walks: the nullable nodes.
-/
import Derived.Test.YtjpcojabdjldbaaBods
import Derived.Test.YtjpcojabdjldbaaLeast
import Derived.Test.YtjpcojabdjldbaaSNul
namespace Go.Proofs.Ytjpcojabdjldbaa
open Go.RowKit
open M (OpD NodeD Gr)
set_option linter.unusedVariables false
set_option linter.unusedSimpArgs false

def U (g : Gr) (i : Nat) : NS := used g.nr (nd g i).body (nd g i).bl

theorem uses_lt {g : Gr} {v x : Nat} (h : NodeOK g v) (hu : M.Uses g.nr (nd g v).bl (nd g v).body x) : x < g.nr + g.nb := by
  obtain ⟨j, hj, hn, rfl⟩ := hu
  rcases h with h | h
  · omega
  · exact tg_lt (h.1 j hj) hn
theorem nullF_mono {g : Gr} (hV : M.Valid g) : M.Mono (g.nr + g.nb) (nullF g) := by
  refine ⟨fun m m' h v hv e => ?_⟩
  have hc : nullF g m v = nullF g (fun u => m u && decide (u < g.nr + g.nb)) v := M.nulB_congr _ _ _ _ _ (fun u hu => by
    have := uses_lt (valid_node hV hv) hu
    simp [this])
  rw [hc] at e
  exact M.nulB_mono _ _ _ (fun u hu => by
    simp at hu
    exact h u hu.2 hu.1) _ _ e
theorem nullF_dep {g : Gr} (hV : M.Valid g) (m m' : Nat → Bool) (x : Nat) (hx : x < g.nr + g.nb) (hm : ∀ v, v < g.nr + g.nb → m' v = (m v || v == x)) (v : Nat) (hv : v < g.nr + g.nb) (e1 : nullF g m' v = true) (e2 : nullF g m v = false) : (U g v).has x = true := by
  have h1 := hV.r2
  have h2 := hV.l2
  have hok := valid_node hV hv
  unfold U
  rw [used_has _ _ _ _ (by omega) (fun j hj hn => by
    have := uses_lt hok ⟨j, hj, hn, rfl⟩
    omega)]
  by_cases hu : M.Uses g.nr (nd g v).bl (nd g v).body x
  · exact hu
  · exfalso
    have : nullF g m' v = nullF g m v := M.nulB_congr _ _ _ _ _ (fun u hu' => by
      have hlt := uses_lt hok hu'
      have hne : ¬ u = x := fun e => hu (e ▸ hu')
      rw [hm u hlt]
      simp [hne])
    rw [e1, e2] at this
    cases this

def put4 (w : World) (b o : Nat) (s : NS) : World := (((w.setCell ⟨b, o, none⟩ (.int .u64 s.a)).setCell ⟨b, o + 1, none⟩ (.int .u64 s.b)).setCell ⟨b, o + 2, none⟩ (.int .u64 s.c)).setCell ⟨b, o + 3, none⟩ (.int .u64 s.d)
theorem put4_cells {w : World} {b o n : Nat} {t : TypeId} {s : NS} (h : Row w b t n) (hn : o + 3 < n) :
    (put4 w b o s).cell? ⟨b, o, none⟩ = some (.int .u64 s.a) ∧ (put4 w b o s).cell? ⟨b, o + 1, none⟩ = some (.int .u64 s.b) ∧ (put4 w b o s).cell? ⟨b, o + 2, none⟩ = some (.int .u64 s.c) ∧ (put4 w b o s).cell? ⟨b, o + 3, none⟩ = some (.int .u64 s.d) := by
  obtain ⟨u0, h0⟩ := h.cell (i := o) (by omega)
  obtain ⟨u1, h1⟩ := (h.set o (.int .u64 s.a)).cell (i := o + 1) (by omega)
  obtain ⟨u2, h2⟩ := ((h.set o (.int .u64 s.a)).set (o + 1) (.int .u64 s.b)).cell (i := o + 2) (by omega)
  obtain ⟨u3, h3⟩ := (((h.set o (.int .u64 s.a)).set (o + 1) (.int .u64 s.b)).set (o + 2) (.int .u64 s.c)).cell (i := o + 3) (by omega)
  unfold put4
  refine ⟨?_, ?_, ?_, cell_set_same h3⟩
  · rw [cell_set_other (by omega), cell_set_other (by omega), cell_set_other (by omega)]; exact cell_set_same h0
  · rw [cell_set_other (by omega), cell_set_other (by omega)]; exact cell_set_same h1
  · rw [cell_set_other (by omega)]; exact cell_set_same h2
theorem put4_other {w : World} {b o j : Nat} {s : NS} (h : j < o ∨ o + 3 < j) : (put4 w b o s).cell? ⟨b, j, none⟩ = w.cell? ⟨b, j, none⟩ := by
  unfold put4
  rw [cell_set_other (by omega), cell_set_other (by omega), cell_set_other (by omega), cell_set_other (by omega)]
theorem put4_row {w : World} {b o n : Nat} {t : TypeId} {s : NS} (h : Row w b t n) : Row (put4 w b o s) b t n := (((h.set _ _).set _ _).set _ _).set _ _
theorem put4_below {B : Nat} {w w' : World} (h : Below B w w') (b o : Nat) (s : NS) (hb : B ≤ b) : Below B w (put4 w' b o s) := by
  unfold put4
  exact (((h.setCell (p := ⟨b, o, none⟩) hb _).setCell (p := ⟨b, o + 1, none⟩) hb _).setCell (p := ⟨b, o + 2, none⟩) hb _).setCell (p := ⟨b, o + 3, none⟩) hb _

theorem info85 : (Try.prog.info? 85).map (fun i => (i.zero, i.size, i.bytes)) = some (some (.agg #[.int .u64 0, .int .u64 0, .int .u64 0, .int .u64 0]), 4, 32) := by kernel_rfl
theorem make85 (n : Nat) (hn : n ≤ 200) (w : World) : (Instr.makeSlice 93 (.int .i64 (n : Int)) (.int .i64 (n : Int))).run Try.prog w = .ok (.slice (some ⟨w.heap.size, 0, none⟩) n n) (w.alloc (.cells (madeCells #[.int .u64 0, .int .u64 0, .int .u64 0, .int .u64 0] (n * 4)) 85)) := by
  obtain ⟨i, hi, hzz⟩ := Option.map_eq_some_iff.1 info85
  simp only [Prod.mk.injEq] at hzz
  obtain ⟨hz, hs, hb⟩ := hzz
  have hr := run_make (P := Try.prog) w 93 85 i _ Try.underlying93 hi hz .i64 .i64 n n (by omega) (Int.le_refl _) (by rw [hb]; omega) (by omega)
  simp only [Int.toNat_natCast, hs] at hr
  exact hr

def nunI (W1 : World) (ub n : Nat) (g : Gr) (i : Value) (wr : World) : Prop :=
  ∃ k : Nat, k ≤ n ∧ i = .int .i64 (k : Int) ∧ Row wr ub 85 (n * 4) ∧ SetsA wr ub 0 k (U g) ∧ Below ub W1 wr

/-- What nullableNodes answers. -/
structure NunIs (g : Gr) (w : World) (e : Ending) (w' : World) : Prop where
  val : ∃ S : NS, S.OK ∧ M.Least (g.nr + g.nb) (nullF g) S.has ∧ e = .returned (.agg #[.int .u64 S.a, .int .u64 S.b, .int .u64 S.c, .int .u64 S.d])
  bel : Below w.heap.size w w'

def ValuesOK (ra la : Option Addr) (g : Gr) (rc lc : Nat) : Prop := ∀ S : NS, S.OK → ∀ W gb mb, Caught W gb mb ra la g.nr rc g.nb lc S → ValueOK W g.nr g.nb S (.pointer (some ⟨gb, 0, none⟩)) (.pointer (some ⟨mb, 0, none⟩))

theorem nodesUsed_agg (Q : Nat → Prop) (ra la a : Option Addr) (g : Gr) (rc lc c k : Nat) (w : World) (hB : OpsA Q w a (nd g k).bl (nd g k).body) (hok : NodeOK g k) (hn : (nd g k).bl ≤ 1048576) (h1 : g.nr ≤ 100) (h2 : g.nb ≤ 100) :
    Calls Try.prog 99 #[.agg #[.slice ra g.nr rc, .slice la g.nb lc], .slice a (nd g k).bl c] w fun e w' => (∃ t, t = U g k ∧ e = .returned (.agg #[.int .u64 t.a, .int .u64 t.b, .int .u64 t.c, .int .u64 t.d])) ∧ Below w.heap.size w w' :=
  (nodesUsed_any Q ra la a g.nr rc g.nb lc (nd g k).bl c (nd g k).body w hB (fun i hi => by
    rcases hok with q | q
    · omega
    · exact q.1 i hi) hn h1 h2).mono (fun e w' h => ⟨⟨_, rfl, h.1⟩, h.2⟩)
theorem U_ok (g : Gr) (i : Nat) : (U g i).OK := used_ok _ _ _

set_option maxRecDepth 100000 in
set_option maxHeartbeats 8000000 in
theorem nullableNodes_any (Q : Nat → Prop) (ra la : Option Addr) (rc lc : Nat) (g : Gr) (b n cap : Nat) (w : World) (hV : M.Valid g) (hs : ∀ p, p < g.nr + g.nb → (nd g p).bl ≤ 1048576) (hn : g.nr + g.nb = n) (hB : BodsA Q w b g n) (hval : ValuesOK ra la g rc lc) :
    Calls Try.prog 62 #[.agg #[.slice ra g.nr rc, .slice la g.nb lc], .slice (some ⟨b, 0, none⟩) n cap] w (NunIs g w) := by
  have h1 := hV.r2
  have h2 := hV.l2
  have h0 := hV.r1
  have HV : Hid (M.Valid g) := hV
  have HS : Hid (∀ p, p < g.nr + g.nb → (nd g p).bl ≤ 1048576) := hs
  have HN : Hid (g.nr + g.nb = n) := hn
  have HB : Hid (BodsA Q w b g n) := hB
  have HVAL : Hid (ValuesOK ra la g rc lc) := hval
  have hn2 : n ≤ 200 := by omega
  have hn1 : 0 < n := by omega
  have hbw : b < w.heap.size := by obtain ⟨a, c, hc, _⟩ := hB 0 hn1; exact lt_of_cell hc
  clear hV hs hn hB hval
  have hmk := make85 n hn2
  go_enter Try.func62, Try.ntmps62
  go_wp2
  have f0 : ((((w.alloc (.cells #[.slice ra g.nr rc, .slice la g.nb lc] 36)).alloc (.cells #[.slice (some ⟨b, 0, none⟩) n cap] 81)).alloc (nsc nz)).alloc (.cells (madeCells #[.int .u64 0, .int .u64 0, .int .u64 0, .int .u64 0] (n * 4)) 85)).cell? ⟨w.heap.size, 0, none⟩ = some (.slice ra g.nr rc) := cell_on (cell_on (cell_on (cN w.heap.size rfl rfl) (bel1 _ _)) (bel1 _ _)) (bel1 _ _)
  have f1 : ((((w.alloc (.cells #[.slice ra g.nr rc, .slice la g.nb lc] 36)).alloc (.cells #[.slice (some ⟨b, 0, none⟩) n cap] 81)).alloc (nsc nz)).alloc (.cells (madeCells #[.int .u64 0, .int .u64 0, .int .u64 0, .int .u64 0] (n * 4)) 85)).cell? ⟨w.heap.size, 1, none⟩ = some (.slice la g.nb lc) := cell_on (cell_on (cell_on (cN w.heap.size rfl rfl) (bel1 _ _)) (bel1 _ _)) (bel1 _ _)
  have f2 : ((((w.alloc (.cells #[.slice ra g.nr rc, .slice la g.nb lc] 36)).alloc (.cells #[.slice (some ⟨b, 0, none⟩) n cap] 81)).alloc (nsc nz)).alloc (.cells (madeCells #[.int .u64 0, .int .u64 0, .int .u64 0, .int .u64 0] (n * 4)) 85)).cell? ⟨w.heap.size + 1, 0, none⟩ = some (.slice (some ⟨b, 0, none⟩) n cap) := cell_on (cell_on (cN (w.heap.size + 1) (by simp) rfl) (bel1 _ _)) (bel1 _ _)
  have f3 : At ((((w.alloc (.cells #[.slice ra g.nr rc, .slice la g.nb lc] 36)).alloc (.cells #[.slice (some ⟨b, 0, none⟩) n cap] 81)).alloc (nsc nz)).alloc (.cells (madeCells #[.int .u64 0, .int .u64 0, .int .u64 0, .int .u64 0] (n * 4)) 85)) (w.heap.size + 1 + 1) nz := by
    have := At.new ((w.alloc (.cells #[.slice ra g.nr rc, .slice la g.nb lc] 36)).alloc (.cells #[.slice (some ⟨b, 0, none⟩) n cap] 81)) nz
    rw [World.size_alloc, World.size_alloc] at this
    exact this.later (bel1 _ _)
  have f4 : Row ((((w.alloc (.cells #[.slice ra g.nr rc, .slice la g.nb lc] 36)).alloc (.cells #[.slice (some ⟨b, 0, none⟩) n cap] 81)).alloc (nsc nz)).alloc (.cells (madeCells #[.int .u64 0, .int .u64 0, .int .u64 0, .int .u64 0] (n * 4)) 85)) (w.heap.size + 1 + 1 + 1) 85 (n * 4) := by
    have := row_made (((w.alloc (.cells #[.slice ra g.nr rc, .slice la g.nb lc] 36)).alloc (.cells #[.slice (some ⟨b, 0, none⟩) n cap] 81)).alloc (nsc nz)) #[.int .u64 0, .int .u64 0, .int .u64 0, .int .u64 0] (n * 4) 85 (by simp)
    rw [World.size_alloc, World.size_alloc, World.size_alloc] at this
    exact this
  have f5 : Below w.heap.size w ((((w.alloc (.cells #[.slice ra g.nr rc, .slice la g.nb lc] 36)).alloc (.cells #[.slice (some ⟨b, 0, none⟩) n cap] 81)).alloc (nsc nz)).alloc (.cells (madeCells #[.int .u64 0, .int .u64 0, .int .u64 0, .int .u64 0] (n * 4)) 85)) := (bel3 w _ _ _).alloc (by simp; omega) _
  rw [show (Obj.cells #[.int .u64 0, .int .u64 0, .int .u64 0, .int .u64 0] 85) = nsc nz from rfl]
  generalize (((w.alloc (.cells #[.slice ra g.nr rc, .slice la g.nb lc] 36)).alloc (.cells #[.slice (some ⟨b, 0, none⟩) n cap] 81)).alloc (nsc nz)).alloc (.cells (madeCells #[.int .u64 0, .int .u64 0, .int .u64 0, .int .u64 0] (n * 4)) 85) = W1 at *
  have H5 : Hid (Below w.heap.size w W1) := f5
  have H4 : Hid (Row W1 (w.heap.size + 1 + 1 + 1) 85 (n * 4)) := f4
  have H3 : Hid (At W1 (w.heap.size + 1 + 1) nz) := f3
  clear f5 f4 f3 hmk
  go_loopw [13] (fun i wr => nunI W1 (w.heap.size + 1 + 1 + 1) n g i wr) (fun i _ => n - (intOf i).toNat)
  case atStart => exact ⟨0, Nat.zero_le _, rfl, H4.out, fun j hj => absurd hj (Nat.not_lt_zero _), Below.refl _ _⟩
  case round =>
    obtain ⟨k, hk, rfl, hrow, hset, hbel⟩ := hrel
    have hbw2 : Below w.heap.size w wr := H5.out.trans (hbel.mono (by omega))
    have g0 : wr.cell? ⟨w.heap.size, 0, none⟩ = some (.slice ra g.nr rc) := (hbel.cell (p := ⟨w.heap.size, 0, none⟩) (show w.heap.size < w.heap.size + 1 + 1 + 1 by omega)).trans f0
    have g1 : wr.cell? ⟨w.heap.size, 1, none⟩ = some (.slice la g.nb lc) := (hbel.cell (p := ⟨w.heap.size, 1, none⟩) (show w.heap.size < w.heap.size + 1 + 1 + 1 by omega)).trans f1
    have g2 : wr.cell? ⟨w.heap.size + 1, 0, none⟩ = some (.slice (some ⟨b, 0, none⟩) n cap) := (hbel.cell (p := ⟨w.heap.size + 1, 0, none⟩) (show w.heap.size + 1 < w.heap.size + 1 + 1 + 1 by omega)).trans f2
    have g3 : At wr (w.heap.size + 1 + 1) nz := H3.out.keep (hbel.block _ (by omega))
    have HROW : Hid (Row wr (w.heap.size + 1 + 1 + 1) 85 (n * 4)) := hrow
    have HSET : Hid (SetsA wr (w.heap.size + 1 + 1 + 1) 0 k (U g)) := hset
    have HBE : Hid (Below (w.heap.size + 1 + 1 + 1) W1 wr) := hbel
    have HBW : Hid (Below w.heap.size w wr) := hbw2
    have H3' : Hid (At wr (w.heap.size + 1 + 1) nz) := g3
    clear hrow hset hbel hbw2 g3
    by_cases hlt : k < n
    · obtain ⟨a, c, hc, hO⟩ := (HB.out.later HBW.out) k hlt
      have hbl : b < wr.heap.size := lt_of_cell hc
      have HO : Hid (OpsA Q wr a (nd g k).bl (nd g k).body) := hO
      have lrow : w.heap.size + 1 + 1 + 1 < wr.heap.size := by obtain ⟨u, hu⟩ := HROW.out.cell (i := 0) (by omega); exact lt_of_cell hu
      clear hO
      go_wp2_with (go_at_call 99; refine (nodesUsed_agg Q ra la a g rc lc c k _ HO.out (valid_node HV.out (by have := HN.out; omega)) (HS.out k (by have := HN.out; omega)) h1 h2).mono ?_; rintro e W ⟨⟨t, ht, rfl⟩, hb⟩; have HT : Hid (t = U g k) := ht; have B2 : Hid (Below wr.heap.size wr W) := hb; have RW : Hid (Row W (w.heap.size + 1 + 1 + 1) 85 (n * 4)) := HROW.out.of_block (hb.block _ lrow); obtain ⟨u0, r0⟩ := RW.out.cell (i := k * 4) (by omega); obtain ⟨u1, r1⟩ := RW.out.cell (i := k * 4 + 1) (by omega); obtain ⟨u2, r2⟩ := RW.out.cell (i := k * 4 + 2) (by omega); obtain ⟨u3, r3⟩ := RW.out.cell (i := k * 4 + 3) (by omega); have z0 := RW.out.frozen (k * 4); have z1 := RW.out.frozen (k * 4 + 1); have z2 := RW.out.frozen (k * 4 + 2); have z3 := RW.out.frozen (k * 4 + 3); clear hb ht)
      go_roundw
      case rel =>
        show nunI W1 (w.heap.size + 1 + 1 + 1) n g _ (put4 W (w.heap.size + 1 + 1 + 1) (k * 4) t)
        refine ⟨k + 1, by omega, by go_num, put4_row RW.out, fun j hj => ?_, put4_below (HBE.out.trans (B2.out.mono (by omega))) _ _ _ (Nat.le_refl _)⟩
        by_cases e : j = k
        · subst e
          have := put4_cells (s := t) RW.out (o := j * 4) (by omega)
          rw [HT.out] at this ⊢
          simpa using this
        · obtain ⟨q0, q1, q2, q3⟩ := (HSET.out.later B2.out) j (by omega)
          exact ⟨(put4_other (by omega)).trans q0, (put4_other (by omega)).trans q1, (put4_other (by omega)).trans q2, (put4_other (by omega)).trans q3⟩
      case measure => simp [intOf]; omega
    · obtain rfl : k = n := by omega
      have HB3 : Hid (BodsA Q wr b g k) := HB.out.later HBW.out
      obtain ⟨y0, y1, y2, y3⟩ := H3'.out.cells
      obtain ⟨z0, z1, z2, z3⟩ := H3'.out.soft
      go_wp2_with fail
      refine (leastMarks_any (w.heap.size + 1 + 1 + 1) 0 k k (U g) _ _ (nullF g) _ HSET.out (fun i _ => U_ok g i) hn1 hn2 (HN.out ▸ nullF_mono HV.out) (fun m m' x hx hm v hv e1 e2 => nullF_dep HV.out m m' x (by have := HN.out; omega) (fun u hu => hm u (by have := HN.out; omega)) v (by have := HN.out; omega) e1 e2)
        (fun x hx S hS W hW => must_any Q ra la rc lc g w.heap.size (w.heap.size + 1) b k cap x S W (cell_on g0 hW) (cell_on g1 hW) (cell_on g2 hW) (HB3.out.later hW) hx hn2 (valid_node HV.out (by have := HN.out; omega)) (HS.out x (by have := HN.out; omega)) (HVAL.out S hS))).mono ?_
      rintro e W ⟨⟨S, hS, hL, rfl⟩, hb⟩
      have BW : Hid (Below w.heap.size w W) := bel_tr HBW.out hb
      have AW : Hid (At W (w.heap.size + 1 + 1) nz) := H3'.out.later hb
      obtain ⟨y0', y1', y2', y3'⟩ := AW.out.cells
      obtain ⟨z0', z1', z2', z3'⟩ := AW.out.soft
      have HL : Hid (M.Least (g.nr + g.nb) (nullF g) S.has) := HN.out ▸ hL
      have HSS : Hid S.OK := hS
      clear hb hL hS
      unfold nsv
      go_wp2
      refine bodyPost_ret (v := .agg #[.int .u64 S.a, .int .u64 S.b, .int .u64 S.c, .int .u64 S.d]) (by simp [results, Try.f62, go_sem, *]) rfl ?_
      exact ⟨⟨S, HSS.out, HL.out, rfl⟩, set4_below BW.out (w.heap.size + 1 + 1) S (by omega)⟩

end Go.Proofs.Ytjpcojabdjldbaa
