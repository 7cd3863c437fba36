/-
  Walks: the program's instructions of sequences.
-/
import Derived.Test.YtjndcajblpgjmaaCExA
namespace Go.Proofs.Ytjndcajblpgjmaa
open Go.RowKit
open M (OpD NodeD Gr InsD EX ins emit wsum)
set_option linter.unusedVariables false
set_option linter.unusedSimpArgs false

set_option maxRecDepth 100000 in
set_option maxHeartbeats 16000000 in
theorem pex_seq (w0 : World) (cb : Nat) (Q : Nat → Prop) (ra la : Option Addr) (rc lc : Nat) (g : Gr) (h1 : g.nr ≤ 100) (h2 : g.nb ≤ 100) (b off N : Nat) (B : Nat → OpD) (hN : N ≤ 2000)
    (hok : ∀ i, i < N → M.ElemOK g.nr g.nb (B i)) (hB : ∀ i, i < N → OpC Q w0 b (off + i * 3) (B i)) (q : Nat) (ih : ∀ m, m < q + 1 → ∀ (lo o c l : Nat) (x : EX) (L : List IC) (fl : List Int) (w : World), m ≤ N → M.Fed B m → M.stk (M.nodeE g.nr) B m = (lo, x) :: M.stk (M.nodeE g.nr) B lo → o = off + lo * 3 → l + lo = m → l ≤ c →
      CS w0 cb (.slice ra g.nr rc) (.slice la g.nb lc) L [] fl w → L.length + x.len ≤ 100000 →
      Calls Try.prog 146 #[.pointer (some ⟨cb, 0, none⟩), .slice (some ⟨b, o, none⟩) l c] w (ExpIs w0 cb (.slice ra g.nr rc) (.slice la g.nb lc) L fl x)) (hkd : (B q).kind = 4) : ∀ (lo o c l : Nat) (x : EX) (L : List IC) (fl : List Int) (w : World), (q + 1) ≤ N → M.Fed B (q + 1) → M.stk (M.nodeE g.nr) B (q + 1) = (lo, x) :: M.stk (M.nodeE g.nr) B lo → o = off + lo * 3 → l + lo = (q + 1) → l ≤ c →
      CS w0 cb (.slice ra g.nr rc) (.slice la g.nb lc) L [] fl w → L.length + x.len ≤ 100000 →
      Calls Try.prog 146 #[.pointer (some ⟨cb, 0, none⟩), .slice (some ⟨b, o, none⟩) l c] w (ExpIs w0 cb (.slice ra g.nr rc) (.slice la g.nb lc) L fl x) := by
  intro lo o c l x L fl w hle hF hst ho hl hc hC hpb
  obtain ⟨hlo, _, _⟩ := M.stk_cons _ B (q + 1) hF lo x _ hst
  have IH : Hid (∀ m, m < q + 1 → ∀ (lo o c l : Nat) (x : EX) (L : List IC) (fl : List Int) (w : World), m ≤ N → M.Fed B m → M.stk (M.nodeE g.nr) B m = (lo, x) :: M.stk (M.nodeE g.nr) B lo → o = off + lo * 3 → l + lo = m → l ≤ c →
      CS w0 cb (.slice ra g.nr rc) (.slice la g.nb lc) L [] fl w → L.length + x.len ≤ 100000 →
      Calls Try.prog 146 #[.pointer (some ⟨cb, 0, none⟩), .slice (some ⟨b, o, none⟩) l c] w (ExpIs w0 cb (.slice ra g.nr rc) (.slice la g.nb lc) L fl x)) := ih
  have HB : Hid (∀ i, i < N → OpC Q w0 b (off + i * 3) (B i)) := hB
  have HK : Hid (∀ i, i < N → M.ElemOK g.nr g.nb (B i)) := hok
  have HF : Hid (M.Fed B (q + 1)) := hF
  have HS : Hid (M.stk (M.nodeE g.nr) B (q + 1) = (lo, x) :: M.stk (M.nodeE g.nr) B lo) := hst
  have HC : Hid (CS w0 cb (.slice ra g.nr rc) (.slice la g.nb lc) L [] fl w) := hC
  obtain ⟨m, rfl⟩ : ∃ m, l = m + 1 := ⟨l - 1, by omega⟩
  have hm : m + lo = q := by omega
  obtain ⟨c0, ⟨sa, sc, c1, hss⟩, c2⟩ := (hB q (by omega)).later hC.bel
  have eo : off + q * 3 = o + m * 3 := by omega
  rw [eo] at c0 c1 c2
  have hbl : b < w.heap.size := lt_of_cell c0
  have hE := hok q (by omega)
  have HE : Hid (M.ElemOK g.nr g.nb (B q)) := hE
  have k0 := hE.1
  have k7 := hE.2.1
  have ha0 : 0 ≤ (B q).arg := hE.2.2.2.2.1
  have HSS : Hid (Ints Q .i64 w sa (B q).sl (B q).set) := hss
  have x2 : ((m + 1 : Nat) : Int) - 1 = (m : Int) := by omega
  have x3 : (m : Int) < ((m + 1 : Nat) : Int) := by omega
  have x4 : m + 1 ≤ 2000 := by omega
  have x5 : (m : Int) ≤ ((m + 1 : Nat) : Int) := by omega
  have hll : lo < q + 1 := hlo
  have HPB : Hid (L.length + x.len ≤ 100000) := hpb
  have hpp : L.length ≤ 100000 := by omega
  have z6 := wrap_small m (by omega)
  have hcm : m < c := by omega
  have hcm' : m ≤ c := by omega
  have hcz : ¬ c = 0 := by omega
  clear hB hok hF hst ih hss hE hC hpb
  have HO : Hid (o = off + lo * 3) := ho
  have HMM : Hid (m + lo = q) := hm
  clear ho hm hl
  have n1 : ((B q).kind == 1) = false := by simp [hkd]
  have n2 : ((B q).kind == 2) = false := by simp [hkd]
  have n3 : ((B q).kind == 3) = false := by simp [hkd]
  have f4 : ((B q).kind == 4) = true := by simp [hkd]
  have n5 : ((B q).kind == 5) = false := by simp [hkd]
  have n6 : ((B q).kind == 6) = false := by simp [hkd]
  have n7 : ((B q).kind == 7) = false := by simp [hkd]
  have har : M.ar (B q).kind = 2 := by simp [M.ar, hkd]
  obtain ⟨s, y, z, hls, hsq, st1, st2, hx, dd1, dd2⟩ := bin_splitG _ B q lo x HF.out har HS.out
  have hxs : x = .seq z y := by rw [hx]; simp [M.nodeE, hkd]
  have HX : Hid (x = .seq z y) := hxs
  have HXL : Hid (x.len = z.len + y.len) := by show _ = _; rw [hxs]; rfl
  obtain ⟨j, hj⟩ : ∃ j, s = lo + j := ⟨s - lo, by omega⟩
  have HP : Hid (s = lo + j) := hj
  have hjm : j < m := by have := HMM.out; omega
  have d1' : Hid (M.dep (fun i => B (lo + i)) j + 1 = M.dep (fun i => B (lo + i)) m) := by
    show _ = _
    rw [dep_shift, dep_shift, ← hj, show lo + m = q by have := HMM.out; omega]
    omega
  have d2' : Hid (∀ i, j < i → i ≤ m → M.dep (fun i => B (lo + i)) m ≤ M.dep (fun i => B (lo + i)) i) := fun i h3 h4 => by
    rw [dep_shift, dep_shift, show lo + m = q by have := HMM.out; omega]
    have := dd2 (lo + i) (by omega) (by have := HMM.out; omega)
    omega
  have ST1 : Hid (M.stk (M.nodeE g.nr) B q = (s, y) :: M.stk (M.nodeE g.nr) B s) := st1
  have ST2 : Hid (M.stk (M.nodeE g.nr) B s = (lo, z) :: M.stk (M.nodeE g.nr) B lo) := st2
  have HSQ : Hid (lo < s ∧ s < q) := ⟨hls, hsq⟩
  have HOP : Hid (∀ W, Below w0.heap.size w0 W → ∀ i, i < m → OpC Q W b (o + i * 3) (B (lo + i))) := fun W hW i hi => by
    have := (HB.out (lo + i) (by have := HMM.out; omega)).later hW
    rw [show off + (lo + i) * 3 = o + i * 3 by have := HO.out; omega] at this
    exact this
  have hjc : j ≤ c := by omega
  have HX1 : Hid (CS w0 cb (.slice ra g.nr rc) (.slice la g.nb lc) L [] fl (w.drew.alloc (.cells #[.int .i64 (B q).kind, .slice sa (B q).sl sc, .int .i64 (B q).arg] 95))) := HC.out.later ((Below.refl _ w).drew.trans (bel1 w.drew _))
  clear st1 st2 hx hxs dd1 dd2 hj hls hsq har hkd
  go_enter Try.func146, Try.ntmps146
  go_wp2
  go_region
  all_goals go_wp2_with fail
  all_goals (
    refine (twoOperands_any b o m c (fun i => B (lo + i)) _ Q (HOP.out _ HX1.out.bel) (by omega) hcm' j hjm d1'.out d2'.out).mono ?_
    rintro e W1 ⟨rfl, hb1⟩
    have C1 : Hid (CS w0 cb (.slice ra g.nr rc) (.slice la g.nb lc) L [] fl W1) := HX1.out.later hb1
    clear hb1
    go_wp2_with fail
    refine (IH.out s (by have := HSQ.out; omega) lo _ _ _ z L fl _ (by have := HSQ.out; omega) (HF.out.less (by have := HSQ.out; omega)) ST2.out HO.out (by have := HP.out; omega) hjc C1.out (by have := HPB.out; have := HXL.out; omega)).mono ?_
    rintro e W2 ⟨⟨v2, rfl⟩, K2, hm2, hc2⟩
    have HM2 : Hid (K2.map IC.d = emit (fun n => (n : Int)) z L.length) := hm2
    have C2 : Hid (CS w0 cb (.slice ra g.nr rc) (.slice la g.nb lc) (L ++ K2) [] fl W2) := hc2
    have HL2 : Hid ((L ++ K2).length = L.length + z.len) := by show _ = _; rw [List.length_append, exp_len hm2]
    clear hm2 hc2
    go_wp2_with fail
    refine (IH.out q (by omega) s _ _ _ y (L ++ K2) fl _ (by omega) (HF.out.less (by omega)) ST1.out (by have := HO.out; have := HP.out; omega) (by have := HMM.out; have := HP.out; omega) (by omega) C2.out (by have := HPB.out; have := HXL.out; have := HL2.out; omega)).mono ?_
    rintro e W3 ⟨⟨v3, rfl⟩, K3, hm3, hc3⟩
    have HM3 : Hid (K3.map IC.d = emit (fun n => (n : Int)) y (L ++ K2).length) := hm3
    have C3 : Hid (CS w0 cb (.slice ra g.nr rc) (.slice la g.nb lc) (L ++ K2 ++ K3) [] fl W3) := hc3
    clear hm3 hc3
    go_wp2
    go_end0
    exact ⟨⟨_, rfl⟩, K2 ++ K3, by rw [HX.out, emit, List.map_append, HM2.out, HM3.out, HL2.out], by rw [← List.append_assoc]; exact C3.out⟩)

end Go.Proofs.Ytjndcajblpgjmaa
