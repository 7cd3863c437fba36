/-
  Walks: the program's instructions of repetitions and nots.
-/
import Derived.Test.YtjndcajblpgjmaaCExA
namespace Go.Proofs.Ytjndcajblpgjmaa
open Go.RowKit
open M (OpD NodeD Gr InsD EX ins emit wsum)
set_option linter.unusedVariables false
set_option linter.unusedSimpArgs false

set_option maxRecDepth 100000 in
set_option maxHeartbeats 16000000 in
theorem pex_star (w0 : World) (cb : Nat) (Q : Nat → Prop) (ra la : Option Addr) (rc lc : Nat) (g : Gr) (h1 : g.nr ≤ 100) (h2 : g.nb ≤ 100) (b off N : Nat) (B : Nat → OpD) (hN : N ≤ 2000)
    (hok : ∀ i, i < N → M.ElemOK g.nr g.nb (B i)) (hB : ∀ i, i < N → OpC Q w0 b (off + i * 3) (B i)) (q : Nat) (ih : ∀ m, m < q + 1 → ∀ (lo o c l : Nat) (x : EX) (L : List IC) (fl : List Int) (w : World), m ≤ N → M.Fed B m → M.stk (M.nodeE g.nr) B m = (lo, x) :: M.stk (M.nodeE g.nr) B lo → o = off + lo * 3 → l + lo = m → l ≤ c →
      CS w0 cb (.slice ra g.nr rc) (.slice la g.nb lc) L [] fl w → L.length + x.len ≤ 100000 →
      Calls Try.prog 146 #[.pointer (some ⟨cb, 0, none⟩), .slice (some ⟨b, o, none⟩) l c] w (ExpIs w0 cb (.slice ra g.nr rc) (.slice la g.nb lc) L fl x)) (hkd : (B q).kind = 6) : ∀ (lo o c l : Nat) (x : EX) (L : List IC) (fl : List Int) (w : World), (q + 1) ≤ N → M.Fed B (q + 1) → M.stk (M.nodeE g.nr) B (q + 1) = (lo, x) :: M.stk (M.nodeE g.nr) B lo → o = off + lo * 3 → l + lo = (q + 1) → l ≤ c →
      CS w0 cb (.slice ra g.nr rc) (.slice la g.nb lc) L [] fl w → L.length + x.len ≤ 100000 →
      Calls Try.prog 146 #[.pointer (some ⟨cb, 0, none⟩), .slice (some ⟨b, o, none⟩) l c] w (ExpIs w0 cb (.slice ra g.nr rc) (.slice la g.nb lc) L fl x) := by
  intro lo o c l x L fl w hle hF hst ho hl hc hC hpb
  obtain ⟨hlo, _, _⟩ := M.stk_cons _ B (q + 1) hF lo x _ hst
  have IH : Hid (∀ m, m < q + 1 → ∀ (lo o c l : Nat) (x : EX) (L : List IC) (fl : List Int) (w : World), m ≤ N → M.Fed B m → M.stk (M.nodeE g.nr) B m = (lo, x) :: M.stk (M.nodeE g.nr) B lo → o = off + lo * 3 → l + lo = m → l ≤ c →
      CS w0 cb (.slice ra g.nr rc) (.slice la g.nb lc) L [] fl w → L.length + x.len ≤ 100000 →
      Calls Try.prog 146 #[.pointer (some ⟨cb, 0, none⟩), .slice (some ⟨b, o, none⟩) l c] w (ExpIs w0 cb (.slice ra g.nr rc) (.slice la g.nb lc) L fl x)) := ih
  have HB : Hid (∀ i, i < N → OpC Q w0 b (off + i * 3) (B i)) := hB
  have HK : Hid (∀ i, i < N → M.ElemOK g.nr g.nb (B i)) := hok
  have HF : Hid (M.Fed B (q + 1)) := hF
  have HS : Hid (M.stk (M.nodeE g.nr) B (q + 1) = (lo, x) :: M.stk (M.nodeE g.nr) B lo) := hst
  have HC : Hid (CS w0 cb (.slice ra g.nr rc) (.slice la g.nb lc) L [] fl w) := hC
  obtain ⟨m, rfl⟩ : ∃ m, l = m + 1 := ⟨l - 1, by omega⟩
  have hm : m + lo = q := by omega
  obtain ⟨c0, ⟨sa, sc, c1, hss⟩, c2⟩ := (hB q (by omega)).later hC.bel
  have eo : off + q * 3 = o + m * 3 := by omega
  rw [eo] at c0 c1 c2
  have hbl : b < w.heap.size := lt_of_cell c0
  have hE := hok q (by omega)
  have HE : Hid (M.ElemOK g.nr g.nb (B q)) := hE
  have k0 := hE.1
  have k7 := hE.2.1
  have ha0 : 0 ≤ (B q).arg := hE.2.2.2.2.1
  have HSS : Hid (Ints Q .i64 w sa (B q).sl (B q).set) := hss
  have x2 : ((m + 1 : Nat) : Int) - 1 = (m : Int) := by omega
  have x3 : (m : Int) < ((m + 1 : Nat) : Int) := by omega
  have x4 : m + 1 ≤ 2000 := by omega
  have x5 : (m : Int) ≤ ((m + 1 : Nat) : Int) := by omega
  have hll : lo < q + 1 := hlo
  have HPB : Hid (L.length + x.len ≤ 100000) := hpb
  have hpp : L.length ≤ 100000 := by omega
  have z6 := wrap_small m (by omega)
  have hcm : m < c := by omega
  have hcm' : m ≤ c := by omega
  have hcz : ¬ c = 0 := by omega
  clear hB hok hF hst ih hss hE hC hpb
  have HO : Hid (o = off + lo * 3) := ho
  have HMM : Hid (m + lo = q) := hm
  clear ho hm hl
  have n1 : ((B q).kind == 1) = false := by simp [hkd]
  have n2 : ((B q).kind == 2) = false := by simp [hkd]
  have n3 : ((B q).kind == 3) = false := by simp [hkd]
  have n4 : ((B q).kind == 4) = false := by simp [hkd]
  have n5 : ((B q).kind == 5) = false := by simp [hkd]
  have f6 : ((B q).kind == 6) = true := by simp [hkd]
  have n7 : ((B q).kind == 7) = false := by simp [hkd]
  obtain ⟨z, hlz, hst1, hxz⟩ := un_splitG _ B q lo x HF.out (by simp [M.ar, hkd]) HS.out
  have hxs : x = .star z := by rw [hxz]; simp [M.nodeE, hkd]
  have HX : Hid (x = .star z) := hxs
  have ST1 : Hid (M.stk (M.nodeE g.nr) B q = (lo, z) :: M.stk (M.nodeE g.nr) B lo) := hst1
  have HXL : Hid (x.len = z.len + 2) := by show _ = _; rw [hxs]; rfl
  have HX1 : Hid (CS w0 cb (.slice ra g.nr rc) (.slice la g.nb lc) L [] fl (w.drew.alloc (.cells #[.int .i64 (B q).kind, .slice sa (B q).sl sc, .int .i64 (B q).arg] 95))) := HC.out.later ((Below.refl _ w).drew.trans (bel1 w.drew _))
  clear hst1 hxz hxs hlz hkd
  go_enter Try.func146, Try.ntmps146
  go_wp2
  go_region
  all_goals go_wp2_with fail
  all_goals (
    refine (put_any w0 cb _ _ L fl _ 1 0 0 HX1.out (by omega)).mono ?_
    rintro e W2 ⟨rfl, C2⟩
    have HL2 : Hid ((L ++ [ic 1 0 0]).length = L.length + 1) := by show _ = _; simp
    go_wp2_with fail
    refine (IH.out q (by omega) lo _ _ _ z (L ++ [ic 1 0 0]) fl _ (by omega) (HF.out.less (by omega)) ST1.out HO.out HMM.out hcm' C2.out (by have := HPB.out; have := HXL.out; have := HL2.out; omega)).mono ?_
    rintro e W3 ⟨⟨v3, rfl⟩, K3, hm3, hc3⟩
    have HM3 : Hid (K3.map IC.d = emit (fun n => (n : Int)) z (L.length + 1)) := HL2.out ▸ hm3
    have C3 : Hid (CS w0 cb (.slice ra g.nr rc) (.slice la g.nb lc) (L ++ [ic 1 0 0] ++ K3) [] fl W3) := hc3
    have HL3 : Hid ((L ++ [ic 1 0 0] ++ K3).length = L.length + 1 + z.len) := by show _ = _; rw [List.length_append, exp_len hm3, HL2.out]
    clear hm3 hc3
    go_wp2_with fail
    refine (put_any w0 cb _ _ (L ++ [ic 1 0 0] ++ K3) fl W3 3 0 ((L.length : Int) + 1) C3.out (by have := HPB.out; have := HXL.out; have := HL3.out; omega)).mono ?_
    rintro e W4 ⟨rfl, C4⟩
    have HL4 : Hid ((L ++ [ic 1 0 0] ++ K3 ++ [ic 3 0 ((L.length : Int) + 1)]).length = L.length + z.len + 2) := by show _ = _; rw [List.length_append, HL3.out]; show L.length + 1 + z.len + 1 = _; omega
    go_wp2_with fail
    refine (aim_any w0 cb _ _ (L ++ [ic 1 0 0] ++ K3 ++ [ic 3 0 ((L.length : Int) + 1)]) fl W4 L.length (ic 1 0 0) C4.out (by simp) (by have := HPB.out; have := HXL.out; have := HL4.out; omega)).mono ?_
    rintro e W5 ⟨⟨v5, rfl⟩, hc5⟩
    rw [HL4.out, show (L ++ [ic 1 0 0] ++ K3 ++ [ic 3 0 ((L.length : Int) + 1)]).set L.length (toI (ic 1 0 0) ((L.length + z.len + 2 : Nat) : Int)) = L ++ (ic 1 0 ((L.length + z.len + 2 : Nat) : Int) :: (K3 ++ [ic 3 0 ((L.length : Int) + 1)])) by simp [toI, ic, ins]] at hc5
    have C5 : Hid (CS w0 cb (.slice ra g.nr rc) (.slice la g.nb lc) (L ++ (ic 1 0 ((L.length + z.len + 2 : Nat) : Int) :: (K3 ++ [ic 3 0 ((L.length : Int) + 1)]))) [] fl W5) := hc5
    clear hc5
    go_wp2
    go_end0
    exact ⟨⟨_, rfl⟩, _, by rw [HX.out, emit, List.map_cons, List.map_append, HM3.out]; rfl, C5.out⟩)

set_option maxRecDepth 100000 in
set_option maxHeartbeats 16000000 in
theorem pex_not (w0 : World) (cb : Nat) (Q : Nat → Prop) (ra la : Option Addr) (rc lc : Nat) (g : Gr) (h1 : g.nr ≤ 100) (h2 : g.nb ≤ 100) (b off N : Nat) (B : Nat → OpD) (hN : N ≤ 2000)
    (hok : ∀ i, i < N → M.ElemOK g.nr g.nb (B i)) (hB : ∀ i, i < N → OpC Q w0 b (off + i * 3) (B i)) (q : Nat) (ih : ∀ m, m < q + 1 → ∀ (lo o c l : Nat) (x : EX) (L : List IC) (fl : List Int) (w : World), m ≤ N → M.Fed B m → M.stk (M.nodeE g.nr) B m = (lo, x) :: M.stk (M.nodeE g.nr) B lo → o = off + lo * 3 → l + lo = m → l ≤ c →
      CS w0 cb (.slice ra g.nr rc) (.slice la g.nb lc) L [] fl w → L.length + x.len ≤ 100000 →
      Calls Try.prog 146 #[.pointer (some ⟨cb, 0, none⟩), .slice (some ⟨b, o, none⟩) l c] w (ExpIs w0 cb (.slice ra g.nr rc) (.slice la g.nb lc) L fl x)) (hkd : (B q).kind = 7) : ∀ (lo o c l : Nat) (x : EX) (L : List IC) (fl : List Int) (w : World), (q + 1) ≤ N → M.Fed B (q + 1) → M.stk (M.nodeE g.nr) B (q + 1) = (lo, x) :: M.stk (M.nodeE g.nr) B lo → o = off + lo * 3 → l + lo = (q + 1) → l ≤ c →
      CS w0 cb (.slice ra g.nr rc) (.slice la g.nb lc) L [] fl w → L.length + x.len ≤ 100000 →
      Calls Try.prog 146 #[.pointer (some ⟨cb, 0, none⟩), .slice (some ⟨b, o, none⟩) l c] w (ExpIs w0 cb (.slice ra g.nr rc) (.slice la g.nb lc) L fl x) := by
  intro lo o c l x L fl w hle hF hst ho hl hc hC hpb
  obtain ⟨hlo, _, _⟩ := M.stk_cons _ B (q + 1) hF lo x _ hst
  have IH : Hid (∀ m, m < q + 1 → ∀ (lo o c l : Nat) (x : EX) (L : List IC) (fl : List Int) (w : World), m ≤ N → M.Fed B m → M.stk (M.nodeE g.nr) B m = (lo, x) :: M.stk (M.nodeE g.nr) B lo → o = off + lo * 3 → l + lo = m → l ≤ c →
      CS w0 cb (.slice ra g.nr rc) (.slice la g.nb lc) L [] fl w → L.length + x.len ≤ 100000 →
      Calls Try.prog 146 #[.pointer (some ⟨cb, 0, none⟩), .slice (some ⟨b, o, none⟩) l c] w (ExpIs w0 cb (.slice ra g.nr rc) (.slice la g.nb lc) L fl x)) := ih
  have HB : Hid (∀ i, i < N → OpC Q w0 b (off + i * 3) (B i)) := hB
  have HK : Hid (∀ i, i < N → M.ElemOK g.nr g.nb (B i)) := hok
  have HF : Hid (M.Fed B (q + 1)) := hF
  have HS : Hid (M.stk (M.nodeE g.nr) B (q + 1) = (lo, x) :: M.stk (M.nodeE g.nr) B lo) := hst
  have HC : Hid (CS w0 cb (.slice ra g.nr rc) (.slice la g.nb lc) L [] fl w) := hC
  obtain ⟨m, rfl⟩ : ∃ m, l = m + 1 := ⟨l - 1, by omega⟩
  have hm : m + lo = q := by omega
  obtain ⟨c0, ⟨sa, sc, c1, hss⟩, c2⟩ := (hB q (by omega)).later hC.bel
  have eo : off + q * 3 = o + m * 3 := by omega
  rw [eo] at c0 c1 c2
  have hbl : b < w.heap.size := lt_of_cell c0
  have hE := hok q (by omega)
  have HE : Hid (M.ElemOK g.nr g.nb (B q)) := hE
  have k0 := hE.1
  have k7 := hE.2.1
  have ha0 : 0 ≤ (B q).arg := hE.2.2.2.2.1
  have HSS : Hid (Ints Q .i64 w sa (B q).sl (B q).set) := hss
  have x2 : ((m + 1 : Nat) : Int) - 1 = (m : Int) := by omega
  have x3 : (m : Int) < ((m + 1 : Nat) : Int) := by omega
  have x4 : m + 1 ≤ 2000 := by omega
  have x5 : (m : Int) ≤ ((m + 1 : Nat) : Int) := by omega
  have hll : lo < q + 1 := hlo
  have HPB : Hid (L.length + x.len ≤ 100000) := hpb
  have hpp : L.length ≤ 100000 := by omega
  have z6 := wrap_small m (by omega)
  have hcm : m < c := by omega
  have hcm' : m ≤ c := by omega
  have hcz : ¬ c = 0 := by omega
  clear hB hok hF hst ih hss hE hC hpb
  have HO : Hid (o = off + lo * 3) := ho
  have HMM : Hid (m + lo = q) := hm
  clear ho hm hl
  have n1 : ((B q).kind == 1) = false := by simp [hkd]
  have n2 : ((B q).kind == 2) = false := by simp [hkd]
  have n3 : ((B q).kind == 3) = false := by simp [hkd]
  have n4 : ((B q).kind == 4) = false := by simp [hkd]
  have n5 : ((B q).kind == 5) = false := by simp [hkd]
  have n6 : ((B q).kind == 6) = false := by simp [hkd]
  have f7 : ((B q).kind == 7) = true := by simp [hkd]
  obtain ⟨z, hlz, hst1, hxz⟩ := un_splitG _ B q lo x HF.out (by simp [M.ar, hkd]) HS.out
  have hxs : x = .not z := by rw [hxz]; simp [M.nodeE, hkd]
  have HX : Hid (x = .not z) := hxs
  have ST1 : Hid (M.stk (M.nodeE g.nr) B q = (lo, z) :: M.stk (M.nodeE g.nr) B lo) := hst1
  have HXL : Hid (x.len = z.len + 2) := by show _ = _; rw [hxs]; rfl
  have HX1 : Hid (CS w0 cb (.slice ra g.nr rc) (.slice la g.nb lc) L [] fl (w.drew.alloc (.cells #[.int .i64 (B q).kind, .slice sa (B q).sl sc, .int .i64 (B q).arg] 95))) := HC.out.later ((Below.refl _ w).drew.trans (bel1 w.drew _))
  clear hst1 hxz hxs hlz hkd
  go_enter Try.func146, Try.ntmps146
  go_wp2
  go_region
  all_goals go_wp2_with fail
  all_goals (
    refine (put_any w0 cb _ _ L fl _ 4 0 0 HX1.out (by omega)).mono ?_
    rintro e W2 ⟨rfl, C2⟩
    have HL2 : Hid ((L ++ [ic 4 0 0]).length = L.length + 1) := by show _ = _; simp
    go_wp2_with fail
    refine (IH.out q (by omega) lo _ _ _ z (L ++ [ic 4 0 0]) fl _ (by omega) (HF.out.less (by omega)) ST1.out HO.out HMM.out hcm' C2.out (by have := HPB.out; have := HXL.out; have := HL2.out; omega)).mono ?_
    rintro e W3 ⟨⟨v3, rfl⟩, K3, hm3, hc3⟩
    have HM3 : Hid (K3.map IC.d = emit (fun n => (n : Int)) z (L.length + 1)) := HL2.out ▸ hm3
    have C3 : Hid (CS w0 cb (.slice ra g.nr rc) (.slice la g.nb lc) (L ++ [ic 4 0 0] ++ K3) [] fl W3) := hc3
    have HL3 : Hid ((L ++ [ic 4 0 0] ++ K3).length = L.length + 1 + z.len) := by show _ = _; rw [List.length_append, exp_len hm3, HL2.out]
    clear hm3 hc3
    go_wp2_with fail
    refine (put_any w0 cb _ _ (L ++ [ic 4 0 0] ++ K3) fl W3 5 0 0 C3.out (by have := HPB.out; have := HXL.out; have := HL3.out; omega)).mono ?_
    rintro e W4 ⟨rfl, C4⟩
    have HL4 : Hid ((L ++ [ic 4 0 0] ++ K3 ++ [ic 5 0 0]).length = L.length + z.len + 2) := by show _ = _; rw [List.length_append, HL3.out]; show L.length + 1 + z.len + 1 = _; omega
    go_wp2_with fail
    refine (aim_any w0 cb _ _ (L ++ [ic 4 0 0] ++ K3 ++ [ic 5 0 0]) fl W4 L.length (ic 4 0 0) C4.out (by simp) (by have := HPB.out; have := HXL.out; have := HL4.out; omega)).mono ?_
    rintro e W5 ⟨⟨v5, rfl⟩, hc5⟩
    rw [HL4.out, show (L ++ [ic 4 0 0] ++ K3 ++ [ic 5 0 0]).set L.length (toI (ic 4 0 0) ((L.length + z.len + 2 : Nat) : Int)) = L ++ (ic 4 0 ((L.length + z.len + 2 : Nat) : Int) :: (K3 ++ [ic 5 0 0])) by simp [toI, ic, ins]] at hc5
    have C5 : Hid (CS w0 cb (.slice ra g.nr rc) (.slice la g.nb lc) (L ++ (ic 4 0 ((L.length + z.len + 2 : Nat) : Int) :: (K3 ++ [ic 5 0 0]))) [] fl W5) := hc5
    clear hc5
    go_wp2
    go_end0
    exact ⟨⟨_, rfl⟩, _, by rw [HX.out, emit, List.map_cons, List.map_append, HM3.out]; rfl, C5.out⟩)

end Go.Proofs.Ytjndcajblpgjmaa
