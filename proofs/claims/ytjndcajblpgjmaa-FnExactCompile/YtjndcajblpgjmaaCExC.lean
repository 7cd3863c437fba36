/-
  Walks: the program's instructions of names.
-/
import Derived.Test.YtjndcajblpgjmaaCExA
namespace Go.Proofs.Ytjndcajblpgjmaa
open Go.RowKit
open M (OpD NodeD Gr InsD EX ins emit wsum)
set_option linter.unusedVariables false
set_option linter.unusedSimpArgs false

set_option maxRecDepth 100000 in
set_option maxHeartbeats 16000000 in
theorem pex_ref (w0 : World) (cb : Nat) (Q : Nat → Prop) (ra la : Option Addr) (rc lc : Nat) (g : Gr) (h1 : g.nr ≤ 100) (h2 : g.nb ≤ 100) (b off N : Nat) (B : Nat → OpD) (hN : N ≤ 2000)
    (hok : ∀ i, i < N → M.ElemOK g.nr g.nb (B i)) (hB : ∀ i, i < N → OpC Q w0 b (off + i * 3) (B i)) (q : Nat) (ih : ∀ m, m < q + 1 → ∀ (lo o c l : Nat) (x : EX) (L : List IC) (fl : List Int) (w : World), m ≤ N → M.Fed B m → M.stk (M.nodeE g.nr) B m = (lo, x) :: M.stk (M.nodeE g.nr) B lo → o = off + lo * 3 → l + lo = m → l ≤ c →
      CS w0 cb (.slice ra g.nr rc) (.slice la g.nb lc) L [] fl w → L.length + x.len ≤ 100000 →
      Calls Try.prog 146 #[.pointer (some ⟨cb, 0, none⟩), .slice (some ⟨b, o, none⟩) l c] w (ExpIs w0 cb (.slice ra g.nr rc) (.slice la g.nb lc) L fl x)) (hkd : (B q).kind = 2) : ∀ (lo o c l : Nat) (x : EX) (L : List IC) (fl : List Int) (w : World), (q + 1) ≤ N → M.Fed B (q + 1) → M.stk (M.nodeE g.nr) B (q + 1) = (lo, x) :: M.stk (M.nodeE g.nr) B lo → o = off + lo * 3 → l + lo = (q + 1) → l ≤ c →
      CS w0 cb (.slice ra g.nr rc) (.slice la g.nb lc) L [] fl w → L.length + x.len ≤ 100000 →
      Calls Try.prog 146 #[.pointer (some ⟨cb, 0, none⟩), .slice (some ⟨b, o, none⟩) l c] w (ExpIs w0 cb (.slice ra g.nr rc) (.slice la g.nb lc) L fl x) := by
  intro lo o c l x L fl w hle hF hst ho hl hc hC hpb
  obtain ⟨hlo, _, _⟩ := M.stk_cons _ B (q + 1) hF lo x _ hst
  have IH : Hid (∀ m, m < q + 1 → ∀ (lo o c l : Nat) (x : EX) (L : List IC) (fl : List Int) (w : World), m ≤ N → M.Fed B m → M.stk (M.nodeE g.nr) B m = (lo, x) :: M.stk (M.nodeE g.nr) B lo → o = off + lo * 3 → l + lo = m → l ≤ c →
      CS w0 cb (.slice ra g.nr rc) (.slice la g.nb lc) L [] fl w → L.length + x.len ≤ 100000 →
      Calls Try.prog 146 #[.pointer (some ⟨cb, 0, none⟩), .slice (some ⟨b, o, none⟩) l c] w (ExpIs w0 cb (.slice ra g.nr rc) (.slice la g.nb lc) L fl x)) := ih
  have HB : Hid (∀ i, i < N → OpC Q w0 b (off + i * 3) (B i)) := hB
  have HK : Hid (∀ i, i < N → M.ElemOK g.nr g.nb (B i)) := hok
  have HF : Hid (M.Fed B (q + 1)) := hF
  have HS : Hid (M.stk (M.nodeE g.nr) B (q + 1) = (lo, x) :: M.stk (M.nodeE g.nr) B lo) := hst
  have HC : Hid (CS w0 cb (.slice ra g.nr rc) (.slice la g.nb lc) L [] fl w) := hC
  obtain ⟨m, rfl⟩ : ∃ m, l = m + 1 := ⟨l - 1, by omega⟩
  have hm : m + lo = q := by omega
  obtain ⟨c0, ⟨sa, sc, c1, hss⟩, c2⟩ := (hB q (by omega)).later hC.bel
  have eo : off + q * 3 = o + m * 3 := by omega
  rw [eo] at c0 c1 c2
  have hbl : b < w.heap.size := lt_of_cell c0
  have hE := hok q (by omega)
  have HE : Hid (M.ElemOK g.nr g.nb (B q)) := hE
  have k0 := hE.1
  have k7 := hE.2.1
  have ha0 : 0 ≤ (B q).arg := hE.2.2.2.2.1
  have HSS : Hid (Ints Q .i64 w sa (B q).sl (B q).set) := hss
  have x2 : ((m + 1 : Nat) : Int) - 1 = (m : Int) := by omega
  have x3 : (m : Int) < ((m + 1 : Nat) : Int) := by omega
  have x4 : m + 1 ≤ 2000 := by omega
  have x5 : (m : Int) ≤ ((m + 1 : Nat) : Int) := by omega
  have hll : lo < q + 1 := hlo
  have HPB : Hid (L.length + x.len ≤ 100000) := hpb
  have hpp : L.length ≤ 100000 := by omega
  have z6 := wrap_small m (by omega)
  have hcm : m < c := by omega
  have hcm' : m ≤ c := by omega
  have hcz : ¬ c = 0 := by omega
  clear hB hok hF hst ih hss hE hC hpb
  have HO : Hid (o = off + lo * 3) := ho
  have HMM : Hid (m + lo = q) := hm
  clear ho hm hl
  have n1 : ((B q).kind == 1) = false := by simp [hkd]
  have f2 : ((B q).kind == 2) = true := by simp [hkd]
  have n3 : ((B q).kind == 3) = false := by simp [hkd]
  have n4 : ((B q).kind == 4) = false := by simp [hkd]
  have n5 : ((B q).kind == 5) = false := by simp [hkd]
  have n6 : ((B q).kind == 6) = false := by simp [hkd]
  have n7 : ((B q).kind == 7) = false := by simp [hkd]
  have HX : Hid (x = .ref (B q).arg.toNat) := by show _ = _; rw [leaf_splitG _ B q lo x (by simp [M.ar, hkd]) HS.out]; simp [M.nodeE, hkd]
  have k6 := HE.out.2.2.2.2.2
  unfold M.most at k6
  have ha1 : (B q).arg ≤ 1048576 := by split at k6 <;> (try split at k6) <;> omega
  have HTG : Hid (((M.tg g.nr (B q) : Nat) : Int) = (((B q).arg.toNat : Nat) : Int)) := by show _ = _; unfold M.tg; rw [if_neg (by omega)]
  have HAN : Hid (((B q).arg.toNat : Int) = (B q).arg) := by show _ = _; omega
  have HX1 : Hid (CS w0 cb (.slice ra g.nr rc) (.slice la g.nb lc) L [] fl (w.alloc (.cells #[.int .i64 (B q).kind, .slice sa (B q).sl sc, .int .i64 (B q).arg] 95))) := HC.out.later (bel1 w _)
  have xk : (w.alloc (.cells #[.int .i64 (B q).kind, .slice sa (B q).sl sc, .int .i64 (B q).arg] 95)).cell? ⟨w.heap.size, 0, none⟩ = some (.int .i64 (B q).kind) := cN w.heap.size rfl rfl
  have xs : (w.alloc (.cells #[.int .i64 (B q).kind, .slice sa (B q).sl sc, .int .i64 (B q).arg] 95)).cell? ⟨w.heap.size, 1, none⟩ = some (.slice sa (B q).sl sc) := cN w.heap.size rfl rfl
  have xa : (w.alloc (.cells #[.int .i64 (B q).kind, .slice sa (B q).sl sc, .int .i64 (B q).arg] 95)).cell? ⟨w.heap.size, 2, none⟩ = some (.int .i64 (B q).arg) := cN w.heap.size rfl rfl
  have HQK : Hid ((B q).kind = (B q).kind) := rfl
  clear hkd k6
  go_enter Try.func146, Try.ntmps146
  go_wp2
  go_region
  all_goals go_wp2_with fail
  all_goals (
    have XX : Hid (CS w0 cb (.slice ra g.nr rc) (.slice la g.nb lc) L [] fl (w.alloc (.cells #[.int .i64 (B q).kind, .slice sa (B q).sl sc, .int .i64 (B q).arg] 95))) := HX1.out
    generalize (w.alloc (.cells #[.int .i64 (B q).kind, .slice sa (B q).sl sc, .int .i64 (B q).arg] 95)) = X at *
    have g0 : X.cell? ⟨cb, 0, none⟩ = some (.slice ra g.nr rc) := by obtain ⟨P, F, S, vp, vf, h⟩ := XX.out; exact h.g0
    have g1 : X.cell? ⟨cb, 1, none⟩ = some (.slice la g.nb lc) := by obtain ⟨P, F, S, vp, vf, h⟩ := XX.out; exact h.g1
    have lcb := lt_of_cell g0
    have lx := lt_of_cell xk
    go_region_law (first
      | (refine stepC2 enter139 rfl (.tmp 41) (.tmp 42) 36 95 rfl (y1 := .agg #[.slice ra g.nr rc, .slice la g.nb lc]) (y2 := .agg #[.int .i64 (B q).kind, .slice sa (B q).sl sc, .int .i64 (B q).arg]) (by simp [Act.eval, Act.put]) (by simp [Act.eval, Act.put]) ((nodeMeant_any ra la sa g.nr rc g.nb lc sc (B q) X.drew.drew ha0 ha1 (by omega)).mono ?_)
         rintro e W2 ⟨rfl, hb2⟩
         have HC2 : Hid (CS w0 cb (.slice ra g.nr rc) (.slice la g.nb lc) L [] fl W2) := XX.out.later ((Below.refl _ X).drew.drew.trans hb2)
         have u2 := cell_on xa ((Below.refl _ X).drew.drew.trans hb2)
         clear hb2
         refine ⟨_, rfl, ?_⟩)
      | (refine stepC2 enter85 rfl (.tmp 37) (.tmp 44) 189 118 rfl (y1 := .pointer (some ⟨cb, 0, none⟩)) (y2 := .agg #[.int .i64 6, .int .i64 0, .int .i64 ((M.tg g.nr (B q) : Nat) : Int), .slice none 0 0]) (by simp [Act.eval, Act.put]) (by simp [Act.eval, Act.put]) ((put_any w0 cb _ _ L fl W2 6 0 ((M.tg g.nr (B q) : Nat) : Int) HC2.out (by omega)).mono ?_)
         rintro e W3 ⟨rfl, HC3⟩
         refine ⟨_, rfl, ?_⟩))
    all_goals go_goals
    all_goals go_wp2
    all_goals go_end0
    all_goals exact ⟨⟨_, rfl⟩, [ic 6 0 ((M.tg g.nr (B q) : Nat) : Int)], by rw [HX.out, emit, HTG.out]; rfl, HC3.out⟩)

set_option maxRecDepth 100000 in
set_option maxHeartbeats 16000000 in
theorem pex_thr (w0 : World) (cb : Nat) (Q : Nat → Prop) (ra la : Option Addr) (rc lc : Nat) (g : Gr) (h1 : g.nr ≤ 100) (h2 : g.nb ≤ 100) (b off N : Nat) (B : Nat → OpD) (hN : N ≤ 2000)
    (hok : ∀ i, i < N → M.ElemOK g.nr g.nb (B i)) (hB : ∀ i, i < N → OpC Q w0 b (off + i * 3) (B i)) (q : Nat) (ih : ∀ m, m < q + 1 → ∀ (lo o c l : Nat) (x : EX) (L : List IC) (fl : List Int) (w : World), m ≤ N → M.Fed B m → M.stk (M.nodeE g.nr) B m = (lo, x) :: M.stk (M.nodeE g.nr) B lo → o = off + lo * 3 → l + lo = m → l ≤ c →
      CS w0 cb (.slice ra g.nr rc) (.slice la g.nb lc) L [] fl w → L.length + x.len ≤ 100000 →
      Calls Try.prog 146 #[.pointer (some ⟨cb, 0, none⟩), .slice (some ⟨b, o, none⟩) l c] w (ExpIs w0 cb (.slice ra g.nr rc) (.slice la g.nb lc) L fl x)) (hkd : (B q).kind = 3) : ∀ (lo o c l : Nat) (x : EX) (L : List IC) (fl : List Int) (w : World), (q + 1) ≤ N → M.Fed B (q + 1) → M.stk (M.nodeE g.nr) B (q + 1) = (lo, x) :: M.stk (M.nodeE g.nr) B lo → o = off + lo * 3 → l + lo = (q + 1) → l ≤ c →
      CS w0 cb (.slice ra g.nr rc) (.slice la g.nb lc) L [] fl w → L.length + x.len ≤ 100000 →
      Calls Try.prog 146 #[.pointer (some ⟨cb, 0, none⟩), .slice (some ⟨b, o, none⟩) l c] w (ExpIs w0 cb (.slice ra g.nr rc) (.slice la g.nb lc) L fl x) := by
  intro lo o c l x L fl w hle hF hst ho hl hc hC hpb
  obtain ⟨hlo, _, _⟩ := M.stk_cons _ B (q + 1) hF lo x _ hst
  have IH : Hid (∀ m, m < q + 1 → ∀ (lo o c l : Nat) (x : EX) (L : List IC) (fl : List Int) (w : World), m ≤ N → M.Fed B m → M.stk (M.nodeE g.nr) B m = (lo, x) :: M.stk (M.nodeE g.nr) B lo → o = off + lo * 3 → l + lo = m → l ≤ c →
      CS w0 cb (.slice ra g.nr rc) (.slice la g.nb lc) L [] fl w → L.length + x.len ≤ 100000 →
      Calls Try.prog 146 #[.pointer (some ⟨cb, 0, none⟩), .slice (some ⟨b, o, none⟩) l c] w (ExpIs w0 cb (.slice ra g.nr rc) (.slice la g.nb lc) L fl x)) := ih
  have HB : Hid (∀ i, i < N → OpC Q w0 b (off + i * 3) (B i)) := hB
  have HK : Hid (∀ i, i < N → M.ElemOK g.nr g.nb (B i)) := hok
  have HF : Hid (M.Fed B (q + 1)) := hF
  have HS : Hid (M.stk (M.nodeE g.nr) B (q + 1) = (lo, x) :: M.stk (M.nodeE g.nr) B lo) := hst
  have HC : Hid (CS w0 cb (.slice ra g.nr rc) (.slice la g.nb lc) L [] fl w) := hC
  obtain ⟨m, rfl⟩ : ∃ m, l = m + 1 := ⟨l - 1, by omega⟩
  have hm : m + lo = q := by omega
  obtain ⟨c0, ⟨sa, sc, c1, hss⟩, c2⟩ := (hB q (by omega)).later hC.bel
  have eo : off + q * 3 = o + m * 3 := by omega
  rw [eo] at c0 c1 c2
  have hbl : b < w.heap.size := lt_of_cell c0
  have hE := hok q (by omega)
  have HE : Hid (M.ElemOK g.nr g.nb (B q)) := hE
  have k0 := hE.1
  have k7 := hE.2.1
  have ha0 : 0 ≤ (B q).arg := hE.2.2.2.2.1
  have HSS : Hid (Ints Q .i64 w sa (B q).sl (B q).set) := hss
  have x2 : ((m + 1 : Nat) : Int) - 1 = (m : Int) := by omega
  have x3 : (m : Int) < ((m + 1 : Nat) : Int) := by omega
  have x4 : m + 1 ≤ 2000 := by omega
  have x5 : (m : Int) ≤ ((m + 1 : Nat) : Int) := by omega
  have hll : lo < q + 1 := hlo
  have HPB : Hid (L.length + x.len ≤ 100000) := hpb
  have hpp : L.length ≤ 100000 := by omega
  have z6 := wrap_small m (by omega)
  have hcm : m < c := by omega
  have hcm' : m ≤ c := by omega
  have hcz : ¬ c = 0 := by omega
  clear hB hok hF hst ih hss hE hC hpb
  have HO : Hid (o = off + lo * 3) := ho
  have HMM : Hid (m + lo = q) := hm
  clear ho hm hl
  have n1 : ((B q).kind == 1) = false := by simp [hkd]
  have n2 : ((B q).kind == 2) = false := by simp [hkd]
  have f3 : ((B q).kind == 3) = true := by simp [hkd]
  have n4 : ((B q).kind == 4) = false := by simp [hkd]
  have n5 : ((B q).kind == 5) = false := by simp [hkd]
  have n6 : ((B q).kind == 6) = false := by simp [hkd]
  have n7 : ((B q).kind == 7) = false := by simp [hkd]
  have HX : Hid (x = .thr (B q).arg.toNat (g.nr + (B q).arg.toNat)) := by show _ = _; rw [leaf_splitG _ B q lo x (by simp [M.ar, hkd]) HS.out]; simp [M.nodeE, hkd]
  have k6 := HE.out.2.2.2.2.2
  unfold M.most at k6
  have ha1 : (B q).arg ≤ 1048576 := by split at k6 <;> (try split at k6) <;> omega
  have HTG : Hid (((M.tg g.nr (B q) : Nat) : Int) = ((g.nr + (B q).arg.toNat : Nat) : Int)) := by show _ = _; unfold M.tg; rw [if_pos hkd]
  have HAN : Hid (((B q).arg.toNat : Int) = (B q).arg) := by show _ = _; omega
  have HX1 : Hid (CS w0 cb (.slice ra g.nr rc) (.slice la g.nb lc) L [] fl (w.alloc (.cells #[.int .i64 (B q).kind, .slice sa (B q).sl sc, .int .i64 (B q).arg] 95))) := HC.out.later (bel1 w _)
  have xk : (w.alloc (.cells #[.int .i64 (B q).kind, .slice sa (B q).sl sc, .int .i64 (B q).arg] 95)).cell? ⟨w.heap.size, 0, none⟩ = some (.int .i64 (B q).kind) := cN w.heap.size rfl rfl
  have xs : (w.alloc (.cells #[.int .i64 (B q).kind, .slice sa (B q).sl sc, .int .i64 (B q).arg] 95)).cell? ⟨w.heap.size, 1, none⟩ = some (.slice sa (B q).sl sc) := cN w.heap.size rfl rfl
  have xa : (w.alloc (.cells #[.int .i64 (B q).kind, .slice sa (B q).sl sc, .int .i64 (B q).arg] 95)).cell? ⟨w.heap.size, 2, none⟩ = some (.int .i64 (B q).arg) := cN w.heap.size rfl rfl
  have HQK : Hid ((B q).kind = (B q).kind) := rfl
  clear hkd k6
  go_enter Try.func146, Try.ntmps146
  go_wp2
  go_region
  all_goals go_wp2_with fail
  all_goals (
    have XX : Hid (CS w0 cb (.slice ra g.nr rc) (.slice la g.nb lc) L [] fl (w.alloc (.cells #[.int .i64 (B q).kind, .slice sa (B q).sl sc, .int .i64 (B q).arg] 95))) := HX1.out
    generalize (w.alloc (.cells #[.int .i64 (B q).kind, .slice sa (B q).sl sc, .int .i64 (B q).arg] 95)) = X at *
    have g0 : X.cell? ⟨cb, 0, none⟩ = some (.slice ra g.nr rc) := by obtain ⟨P, F, S, vp, vf, h⟩ := XX.out; exact h.g0
    have g1 : X.cell? ⟨cb, 1, none⟩ = some (.slice la g.nb lc) := by obtain ⟨P, F, S, vp, vf, h⟩ := XX.out; exact h.g1
    have lcb := lt_of_cell g0
    have lx := lt_of_cell xk
    go_region_law (first
      | (refine stepC2 enter139 rfl (.tmp 54) (.tmp 55) 36 95 rfl (y1 := .agg #[.slice ra g.nr rc, .slice la g.nb lc]) (y2 := .agg #[.int .i64 (B q).kind, .slice sa (B q).sl sc, .int .i64 (B q).arg]) (by simp [Act.eval, Act.put]) (by simp [Act.eval, Act.put]) ((nodeMeant_any ra la sa g.nr rc g.nb lc sc (B q) X.drew.drew ha0 ha1 (by omega)).mono ?_)
         rintro e W2 ⟨rfl, hb2⟩
         have HC2 : Hid (CS w0 cb (.slice ra g.nr rc) (.slice la g.nb lc) L [] fl W2) := XX.out.later ((Below.refl _ X).drew.drew.trans hb2)
         have u2 := cell_on xa ((Below.refl _ X).drew.drew.trans hb2)
         clear hb2
         refine ⟨_, rfl, ?_⟩)
      | (refine stepC2 enter85 rfl (.tmp 48) (.tmp 57) 189 118 rfl (y1 := .pointer (some ⟨cb, 0, none⟩)) (y2 := .agg #[.int .i64 8, .int .i64 (B q).arg, .int .i64 ((M.tg g.nr (B q) : Nat) : Int), .slice none 0 0]) (by simp [Act.eval, Act.put]) (by simp [Act.eval, Act.put]) ((put_any w0 cb _ _ L fl W2 8 (B q).arg ((M.tg g.nr (B q) : Nat) : Int) HC2.out (by omega)).mono ?_)
         rintro e W3 ⟨rfl, HC3⟩
         refine ⟨_, rfl, ?_⟩))
    all_goals go_goals
    all_goals go_wp2
    all_goals go_end0
    all_goals exact ⟨⟨_, rfl⟩, [ic 8 (B q).arg ((M.tg g.nr (B q) : Nat) : Int)], by rw [HX.out, emit, HTG.out, HAN.out]; rfl, HC3.out⟩)

end Go.Proofs.Ytjndcajblpgjmaa
