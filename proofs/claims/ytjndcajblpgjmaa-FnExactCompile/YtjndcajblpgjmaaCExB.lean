/-
  Walks: the program's instructions of leaves.
-/
import Derived.Test.YtjndcajblpgjmaaCExA
namespace Go.Proofs.Ytjndcajblpgjmaa
open Go.RowKit
open M (OpD NodeD Gr InsD EX ins emit wsum)
set_option linter.unusedVariables false
set_option linter.unusedSimpArgs false

set_option maxRecDepth 100000 in
set_option maxHeartbeats 16000000 in
theorem pex_empty (w0 : World) (cb : Nat) (Q : Nat → Prop) (ra la : Option Addr) (rc lc : Nat) (g : Gr) (h1 : g.nr ≤ 100) (h2 : g.nb ≤ 100) (b off N : Nat) (B : Nat → OpD) (hN : N ≤ 2000)
    (hok : ∀ i, i < N → M.ElemOK g.nr g.nb (B i)) (hB : ∀ i, i < N → OpC Q w0 b (off + i * 3) (B i)) (q : Nat) (ih : ∀ m, m < q + 1 → ∀ (lo o c l : Nat) (x : EX) (L : List IC) (fl : List Int) (w : World), m ≤ N → M.Fed B m → M.stk (M.nodeE g.nr) B m = (lo, x) :: M.stk (M.nodeE g.nr) B lo → o = off + lo * 3 → l + lo = m → l ≤ c →
      CS w0 cb (.slice ra g.nr rc) (.slice la g.nb lc) L [] fl w → L.length + x.len ≤ 100000 →
      Calls Try.prog 146 #[.pointer (some ⟨cb, 0, none⟩), .slice (some ⟨b, o, none⟩) l c] w (ExpIs w0 cb (.slice ra g.nr rc) (.slice la g.nb lc) L fl x)) (hkd : (B q).kind = 0) : ∀ (lo o c l : Nat) (x : EX) (L : List IC) (fl : List Int) (w : World), (q + 1) ≤ N → M.Fed B (q + 1) → M.stk (M.nodeE g.nr) B (q + 1) = (lo, x) :: M.stk (M.nodeE g.nr) B lo → o = off + lo * 3 → l + lo = (q + 1) → l ≤ c →
      CS w0 cb (.slice ra g.nr rc) (.slice la g.nb lc) L [] fl w → L.length + x.len ≤ 100000 →
      Calls Try.prog 146 #[.pointer (some ⟨cb, 0, none⟩), .slice (some ⟨b, o, none⟩) l c] w (ExpIs w0 cb (.slice ra g.nr rc) (.slice la g.nb lc) L fl x) := by
  intro lo o c l x L fl w hle hF hst ho hl hc hC hpb
  obtain ⟨hlo, _, _⟩ := M.stk_cons _ B (q + 1) hF lo x _ hst
  have IH : Hid (∀ m, m < q + 1 → ∀ (lo o c l : Nat) (x : EX) (L : List IC) (fl : List Int) (w : World), m ≤ N → M.Fed B m → M.stk (M.nodeE g.nr) B m = (lo, x) :: M.stk (M.nodeE g.nr) B lo → o = off + lo * 3 → l + lo = m → l ≤ c →
      CS w0 cb (.slice ra g.nr rc) (.slice la g.nb lc) L [] fl w → L.length + x.len ≤ 100000 →
      Calls Try.prog 146 #[.pointer (some ⟨cb, 0, none⟩), .slice (some ⟨b, o, none⟩) l c] w (ExpIs w0 cb (.slice ra g.nr rc) (.slice la g.nb lc) L fl x)) := ih
  have HB : Hid (∀ i, i < N → OpC Q w0 b (off + i * 3) (B i)) := hB
  have HK : Hid (∀ i, i < N → M.ElemOK g.nr g.nb (B i)) := hok
  have HF : Hid (M.Fed B (q + 1)) := hF
  have HS : Hid (M.stk (M.nodeE g.nr) B (q + 1) = (lo, x) :: M.stk (M.nodeE g.nr) B lo) := hst
  have HC : Hid (CS w0 cb (.slice ra g.nr rc) (.slice la g.nb lc) L [] fl w) := hC
  obtain ⟨m, rfl⟩ : ∃ m, l = m + 1 := ⟨l - 1, by omega⟩
  have hm : m + lo = q := by omega
  obtain ⟨c0, ⟨sa, sc, c1, hss⟩, c2⟩ := (hB q (by omega)).later hC.bel
  have eo : off + q * 3 = o + m * 3 := by omega
  rw [eo] at c0 c1 c2
  have hbl : b < w.heap.size := lt_of_cell c0
  have hE := hok q (by omega)
  have HE : Hid (M.ElemOK g.nr g.nb (B q)) := hE
  have k0 := hE.1
  have k7 := hE.2.1
  have ha0 : 0 ≤ (B q).arg := hE.2.2.2.2.1
  have HSS : Hid (Ints Q .i64 w sa (B q).sl (B q).set) := hss
  have x2 : ((m + 1 : Nat) : Int) - 1 = (m : Int) := by omega
  have x3 : (m : Int) < ((m + 1 : Nat) : Int) := by omega
  have x4 : m + 1 ≤ 2000 := by omega
  have x5 : (m : Int) ≤ ((m + 1 : Nat) : Int) := by omega
  have hll : lo < q + 1 := hlo
  have HPB : Hid (L.length + x.len ≤ 100000) := hpb
  have hpp : L.length ≤ 100000 := by omega
  have z6 := wrap_small m (by omega)
  have hcm : m < c := by omega
  have hcm' : m ≤ c := by omega
  have hcz : ¬ c = 0 := by omega
  clear hB hok hF hst ih hss hE hC hpb
  have HO : Hid (o = off + lo * 3) := ho
  have HMM : Hid (m + lo = q) := hm
  clear ho hm hl
  have n1 : ((B q).kind == 1) = false := by simp [hkd]
  have n2 : ((B q).kind == 2) = false := by simp [hkd]
  have n3 : ((B q).kind == 3) = false := by simp [hkd]
  have n4 : ((B q).kind == 4) = false := by simp [hkd]
  have n5 : ((B q).kind == 5) = false := by simp [hkd]
  have n6 : ((B q).kind == 6) = false := by simp [hkd]
  have n7 : ((B q).kind == 7) = false := by simp [hkd]
  have HX : Hid (x = .empty) := by show _ = _; rw [leaf_splitG _ B q lo x (by simp [M.ar, hkd]) HS.out]; simp [M.nodeE, hkd]
  clear hkd
  go_enter Try.func146, Try.ntmps146
  go_wp2
  go_region
  all_goals go_wp2
  all_goals go_end0
  all_goals exact ⟨⟨_, rfl⟩, [], by rw [HX.out]; rfl, by rw [List.append_nil]; exact HC.out.later ((Below.refl _ w).drew.trans (bel1 w.drew _))⟩

set_option maxRecDepth 100000 in
set_option maxHeartbeats 16000000 in
theorem pex_set (w0 : World) (cb : Nat) (Q : Nat → Prop) (ra la : Option Addr) (rc lc : Nat) (g : Gr) (h1 : g.nr ≤ 100) (h2 : g.nb ≤ 100) (b off N : Nat) (B : Nat → OpD) (hN : N ≤ 2000)
    (hok : ∀ i, i < N → M.ElemOK g.nr g.nb (B i)) (hB : ∀ i, i < N → OpC Q w0 b (off + i * 3) (B i)) (q : Nat) (ih : ∀ m, m < q + 1 → ∀ (lo o c l : Nat) (x : EX) (L : List IC) (fl : List Int) (w : World), m ≤ N → M.Fed B m → M.stk (M.nodeE g.nr) B m = (lo, x) :: M.stk (M.nodeE g.nr) B lo → o = off + lo * 3 → l + lo = m → l ≤ c →
      CS w0 cb (.slice ra g.nr rc) (.slice la g.nb lc) L [] fl w → L.length + x.len ≤ 100000 →
      Calls Try.prog 146 #[.pointer (some ⟨cb, 0, none⟩), .slice (some ⟨b, o, none⟩) l c] w (ExpIs w0 cb (.slice ra g.nr rc) (.slice la g.nb lc) L fl x)) (hkd : (B q).kind = 1) : ∀ (lo o c l : Nat) (x : EX) (L : List IC) (fl : List Int) (w : World), (q + 1) ≤ N → M.Fed B (q + 1) → M.stk (M.nodeE g.nr) B (q + 1) = (lo, x) :: M.stk (M.nodeE g.nr) B lo → o = off + lo * 3 → l + lo = (q + 1) → l ≤ c →
      CS w0 cb (.slice ra g.nr rc) (.slice la g.nb lc) L [] fl w → L.length + x.len ≤ 100000 →
      Calls Try.prog 146 #[.pointer (some ⟨cb, 0, none⟩), .slice (some ⟨b, o, none⟩) l c] w (ExpIs w0 cb (.slice ra g.nr rc) (.slice la g.nb lc) L fl x) := by
  intro lo o c l x L fl w hle hF hst ho hl hc hC hpb
  obtain ⟨hlo, _, _⟩ := M.stk_cons _ B (q + 1) hF lo x _ hst
  have IH : Hid (∀ m, m < q + 1 → ∀ (lo o c l : Nat) (x : EX) (L : List IC) (fl : List Int) (w : World), m ≤ N → M.Fed B m → M.stk (M.nodeE g.nr) B m = (lo, x) :: M.stk (M.nodeE g.nr) B lo → o = off + lo * 3 → l + lo = m → l ≤ c →
      CS w0 cb (.slice ra g.nr rc) (.slice la g.nb lc) L [] fl w → L.length + x.len ≤ 100000 →
      Calls Try.prog 146 #[.pointer (some ⟨cb, 0, none⟩), .slice (some ⟨b, o, none⟩) l c] w (ExpIs w0 cb (.slice ra g.nr rc) (.slice la g.nb lc) L fl x)) := ih
  have HB : Hid (∀ i, i < N → OpC Q w0 b (off + i * 3) (B i)) := hB
  have HK : Hid (∀ i, i < N → M.ElemOK g.nr g.nb (B i)) := hok
  have HF : Hid (M.Fed B (q + 1)) := hF
  have HS : Hid (M.stk (M.nodeE g.nr) B (q + 1) = (lo, x) :: M.stk (M.nodeE g.nr) B lo) := hst
  have HC : Hid (CS w0 cb (.slice ra g.nr rc) (.slice la g.nb lc) L [] fl w) := hC
  obtain ⟨m, rfl⟩ : ∃ m, l = m + 1 := ⟨l - 1, by omega⟩
  have hm : m + lo = q := by omega
  obtain ⟨c0, ⟨sa, sc, c1, hss⟩, c2⟩ := (hB q (by omega)).later hC.bel
  have eo : off + q * 3 = o + m * 3 := by omega
  rw [eo] at c0 c1 c2
  have hbl : b < w.heap.size := lt_of_cell c0
  have hE := hok q (by omega)
  have HE : Hid (M.ElemOK g.nr g.nb (B q)) := hE
  have k0 := hE.1
  have k7 := hE.2.1
  have ha0 : 0 ≤ (B q).arg := hE.2.2.2.2.1
  have HSS : Hid (Ints Q .i64 w sa (B q).sl (B q).set) := hss
  have x2 : ((m + 1 : Nat) : Int) - 1 = (m : Int) := by omega
  have x3 : (m : Int) < ((m + 1 : Nat) : Int) := by omega
  have x4 : m + 1 ≤ 2000 := by omega
  have x5 : (m : Int) ≤ ((m + 1 : Nat) : Int) := by omega
  have hll : lo < q + 1 := hlo
  have HPB : Hid (L.length + x.len ≤ 100000) := hpb
  have hpp : L.length ≤ 100000 := by omega
  have z6 := wrap_small m (by omega)
  have hcm : m < c := by omega
  have hcm' : m ≤ c := by omega
  have hcz : ¬ c = 0 := by omega
  clear hB hok hF hst ih hss hE hC hpb
  have HO : Hid (o = off + lo * 3) := ho
  have HMM : Hid (m + lo = q) := hm
  clear ho hm hl
  have f1 : ((B q).kind == 1) = true := by simp [hkd]
  have n2 : ((B q).kind == 2) = false := by simp [hkd]
  have n3 : ((B q).kind == 3) = false := by simp [hkd]
  have n4 : ((B q).kind == 4) = false := by simp [hkd]
  have n5 : ((B q).kind == 5) = false := by simp [hkd]
  have n6 : ((B q).kind == 6) = false := by simp [hkd]
  have n7 : ((B q).kind == 7) = false := by simp [hkd]
  have HX : Hid (x = .set (B q).sl (B q).set) := by show _ = _; rw [leaf_splitG _ B q lo x (by simp [M.ar, hkd]) HS.out]; simp [M.nodeE, hkd]
  have hsl : (B q).sl ≤ 1048576 := by have := canonLen (HE.out.2.2.1 hkd); omega
  have HX1 : Hid (CS w0 cb (.slice ra g.nr rc) (.slice la g.nb lc) L [] fl (w.drew.alloc (.cells #[.int .i64 (B q).kind, .slice sa (B q).sl sc, .int .i64 (B q).arg] 95))) := HC.out.later ((Below.refl _ w).drew.trans (bel1 w.drew _))
  have HI1 : Hid (Ints Q .i64 (w.drew.alloc (.cells #[.int .i64 (B q).kind, .slice sa (B q).sl sc, .int .i64 (B q).arg] 95)) sa (B q).sl (B q).set) := HSS.out.later ((Below.refl _ w).drew.trans (bel1 w.drew _))
  clear hkd
  go_enter Try.func146, Try.ntmps146
  go_wp2
  go_region
  all_goals go_wp2_with fail
  all_goals (
    refine (sliceClone_any Q sa (B q).sl sc (B q).set _ HI1.out hsl).mono ?_
    rintro e W1 ⟨⟨a', c', rfl, hI⟩, hb, hso⟩
    have HF1 : Hid (CS w0 cb (.slice ra g.nr rc) (.slice la g.nb lc) L [⟨⟨0, 0, 0, (B q).sl, (B q).set⟩, a', c'⟩] fl W1) := HX1.out.fresh hb ⟨⟨0, 0, 0, (B q).sl, (B q).set⟩, a', c'⟩ hI hso
    clear hI hb hso
    go_wp2_with fail
    refine (put_set w0 cb _ _ L fl W1 ⟨⟨0, 0, 0, (B q).sl, (B q).set⟩, a', c'⟩ HF1.out (by omega)).mono ?_
    rintro e W2 ⟨rfl, HC2⟩
    go_wp2
    go_end0
    exact ⟨⟨_, rfl⟩, [⟨⟨0, 0, 0, (B q).sl, (B q).set⟩, a', c'⟩], by rw [HX.out]; rfl, HC2.out⟩)

end Go.Proofs.Ytjndcajblpgjmaa
