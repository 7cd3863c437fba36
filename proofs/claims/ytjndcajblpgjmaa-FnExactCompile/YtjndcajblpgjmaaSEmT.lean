/-
  Walks: the specification's instructions of an expression, one kind.
-/
import Derived.Test.YtjndcajblpgjmaaSEmA
namespace Go.Proofs.Ytjndcajblpgjmaa
open Go.RowKit
open M (OpD NodeD Gr InsD EX ins emit wsum wt)
set_option linter.unusedVariables false
set_option linter.unusedSimpArgs false

set_option maxRecDepth 100000 in
set_option maxHeartbeats 16000000 in
theorem l4expr_alt (Q : Nat → Prop) (ra la : Option Addr) (rc lc : Nat) (g : Gr) (hV : M.Valid g) (b off N : Nat) (B : Nat → OpD) (hN : N ≤ 2000)
    (hok : ∀ i, i < N → M.ElemOK g.nr g.nb (B i)) (q : Nat) (ih : ∀ m, m < q + 1 → ∀ (lo o c l : Nat) (x : EX) (p : Nat) (pv : Int) (w : World), pv = (p : Int) → m ≤ N → M.Fed B m → M.stk (M.nodeE g.nr) B m = (lo, x) :: M.stk (M.nodeE g.nr) B lo → o = off + lo * 3 → l + lo = m → l ≤ c →
      (∀ i, i < N → OpC Q w b (off + i * 3) (B i)) → GramX Q w ra la g → p + x.len ≤ 100000 →
      Calls Try.prog 145 #[.agg #[.slice ra g.nr rc, .slice la g.nb lc], .slice (some ⟨b, o, none⟩) l c, .int .i64 pv] w (GivesR (emit (plc g) x p) w)) (hkd : (B q).kind = 5) : ∀ (lo o c l : Nat) (x : EX) (p : Nat) (pv : Int) (w : World), pv = (p : Int) → (q + 1) ≤ N → M.Fed B (q + 1) → M.stk (M.nodeE g.nr) B (q + 1) = (lo, x) :: M.stk (M.nodeE g.nr) B lo → o = off + lo * 3 → l + lo = (q + 1) → l ≤ c →
      (∀ i, i < N → OpC Q w b (off + i * 3) (B i)) → GramX Q w ra la g → p + x.len ≤ 100000 →
      Calls Try.prog 145 #[.agg #[.slice ra g.nr rc, .slice la g.nb lc], .slice (some ⟨b, o, none⟩) l c, .int .i64 pv] w (GivesR (emit (plc g) x p) w) := by
  intro lo o c l x p pv w hpv hle hF hst ho hl hc hB hG hpb
  subst hpv
  obtain ⟨hlo, _, _⟩ := M.stk_cons _ B (q + 1) hF lo x _ hst
  have IH : Hid (∀ m, m < q + 1 → ∀ (lo o c l : Nat) (x : EX) (p : Nat) (pv : Int) (w : World), pv = (p : Int) → m ≤ N → M.Fed B m → M.stk (M.nodeE g.nr) B m = (lo, x) :: M.stk (M.nodeE g.nr) B lo → o = off + lo * 3 → l + lo = m → l ≤ c →
    (∀ i, i < N → OpC Q w b (off + i * 3) (B i)) → GramX Q w ra la g → p + x.len ≤ 100000 →
    Calls Try.prog 145 #[.agg #[.slice ra g.nr rc, .slice la g.nb lc], .slice (some ⟨b, o, none⟩) l c, .int .i64 pv] w (GivesR (emit (plc g) x p) w)) := ih
  have HB : Hid (∀ i, i < N → OpC Q w b (off + i * 3) (B i)) := hB
  have HG : Hid (GramX Q w ra la g) := hG
  have HK : Hid (∀ i, i < N → M.ElemOK g.nr g.nb (B i)) := hok
  have HF : Hid (M.Fed B (q + 1)) := hF
  have HS : Hid (M.stk (M.nodeE g.nr) B (q + 1) = (lo, x) :: M.stk (M.nodeE g.nr) B lo) := hst
  have HV : Hid (M.Valid g) := hV
  have h1 := hV.r2
  have h2 := hV.l2
  obtain ⟨m, rfl⟩ : ∃ m, l = m + 1 := ⟨l - 1, by omega⟩
  have hm : m + lo = q := by omega
  obtain ⟨c0, ⟨sa, sc, c1, hss⟩, c2⟩ := hB q (by omega)
  have eo : off + q * 3 = o + m * 3 := by omega
  rw [eo] at c0 c1 c2
  have hbl : b < w.heap.size := lt_of_cell c0
  have hE := hok q (by omega)
  have HE : Hid (M.ElemOK g.nr g.nb (B q)) := hE
  have k0 := hE.1
  have k7 := hE.2.1
  have ha0 : 0 ≤ (B q).arg := hE.2.2.2.2.1
  have HSS : Hid (Ints Q .i64 w sa (B q).sl (B q).set) := hss
  have x2 : ((m + 1 : Nat) : Int) - 1 = (m : Int) := by omega
  have x3 : (m : Int) < ((m + 1 : Nat) : Int) := by omega
  have x4 : m + 1 ≤ 2000 := by omega
  have hll : lo < q + 1 := hlo
  have HPB : Hid (p + x.len ≤ 100000) := hpb
  have hpp : p ≤ 100000 := by omega
  clear hB hok hF hst ih hss hE hG hV hpb
  have HO : Hid (o = off + lo * 3) := ho
  have HMM : Hid (m + lo = q) := hm
  clear ho hm hl
  have bX : Below w.heap.size w ((w.alloc (.cells #[.slice ra g.nr rc, .slice la g.nb lc] 36)).alloc (.cells #[.int .i64 (B q).kind, .slice sa (B q).sl sc, .int .i64 (B q).arg] 95)) := bel2 w _ _
  have xg0 : ((w.alloc (.cells #[.slice ra g.nr rc, .slice la g.nb lc] 36)).alloc (.cells #[.int .i64 (B q).kind, .slice sa (B q).sl sc, .int .i64 (B q).arg] 95)).cell? ⟨w.heap.size, 0, none⟩ = some (.slice ra g.nr rc) := cell_on (cN w.heap.size rfl rfl) (bel1 _ _)
  have xg1 : ((w.alloc (.cells #[.slice ra g.nr rc, .slice la g.nb lc] 36)).alloc (.cells #[.int .i64 (B q).kind, .slice sa (B q).sl sc, .int .i64 (B q).arg] 95)).cell? ⟨w.heap.size, 1, none⟩ = some (.slice la g.nb lc) := cell_on (cN w.heap.size rfl rfl) (bel1 _ _)
  have xk : ((w.alloc (.cells #[.slice ra g.nr rc, .slice la g.nb lc] 36)).alloc (.cells #[.int .i64 (B q).kind, .slice sa (B q).sl sc, .int .i64 (B q).arg] 95)).cell? ⟨w.heap.size + 1, 0, none⟩ = some (.int .i64 (B q).kind) := cN (w.heap.size + 1) (by simp) rfl
  have xs : ((w.alloc (.cells #[.slice ra g.nr rc, .slice la g.nb lc] 36)).alloc (.cells #[.int .i64 (B q).kind, .slice sa (B q).sl sc, .int .i64 (B q).arg] 95)).cell? ⟨w.heap.size + 1, 1, none⟩ = some (.slice sa (B q).sl sc) := cN (w.heap.size + 1) (by simp) rfl
  have xa : ((w.alloc (.cells #[.slice ra g.nr rc, .slice la g.nb lc] 36)).alloc (.cells #[.int .i64 (B q).kind, .slice sa (B q).sl sc, .int .i64 (B q).arg] 95)).cell? ⟨w.heap.size + 1, 2, none⟩ = some (.int .i64 (B q).arg) := cN (w.heap.size + 1) (by simp) rfl
  have HXZ : Hid (((w.alloc (.cells #[.slice ra g.nr rc, .slice la g.nb lc] 36)).alloc (.cells #[.int .i64 (B q).kind, .slice sa (B q).sl sc, .int .i64 (B q).arg] 95)).heap.size = w.heap.size + 1 + 1) := by show _ = _; simp
  have hXs : w.heap.size + 1 < ((w.alloc (.cells #[.slice ra g.nr rc, .slice la g.nb lc] 36)).alloc (.cells #[.int .i64 (B q).kind, .slice sa (B q).sl sc, .int .i64 (B q).arg] 95)).heap.size := lt_of_cell xk
  have HOPS : Hid (∀ W, Below w.heap.size w W → ∀ n, n ≤ m + 1 → OpsA (fun _ => True) W (some ⟨b, o, none⟩) n (fun i => B (lo + i))) := fun W hW n hn => .inr ⟨b, o, rfl, trivial, fun i hi => by
    have := ((HB.out (lo + i) (by have := HMM.out; omega)).later hW).wide (Q' := fun _ => True) (fun _ _ => trivial)
    rw [show off + (lo + i) * 3 = o + i * 3 by have := HO.out; omega] at this
    exact this⟩
  have HKS : Hid (∀ i, i < m + 1 → 0 ≤ (B (lo + i)).kind ∧ (B (lo + i)).kind ≤ 7) := fun i hi => elem_kinds HK.out (lo + i) (by have := HMM.out; omega)
  have HSG : Hid (wsum (fun i => B (lo + i)) (m + 1) = x.len) := seg_len HF.out HS.out (by have := HMM.out; omega)
  have z6 := wrap_small m (by omega)
  have hcm : m < c := by omega
  have hcm' : m ≤ c := by omega
  have hcz : ¬ c = 0 := by omega
  have n0 : ((B q).kind == 0) = false := by simp [hkd]
  have n1 : ((B q).kind == 1) = false := by simp [hkd]
  have n2 : ((B q).kind == 2) = false := by simp [hkd]
  have n3 : ((B q).kind == 3) = false := by simp [hkd]
  have n4 : ((B q).kind == 4) = false := by simp [hkd]
  have f5 : ((B q).kind == 5) = true := by simp [hkd]
  have n6 : ((B q).kind == 6) = false := by simp [hkd]
  have n7 : ((B q).kind == 7) = false := by simp [hkd]
  have har : M.ar (B q).kind = 2 := by simp [M.ar, hkd]
  obtain ⟨s, y, z, hls, hsq, st1, st2, hx, dd1, dd2⟩ := bin_splitG _ B q lo x HF.out har HS.out
  have hxs : x = .alt z y := by rw [hx]; simp [M.nodeE, hkd]
  have HX : Hid (x = .alt z y) := hxs
  have HXL : Hid (x.len = z.len + y.len + 2) := by show _ = _; rw [hxs]; rfl
  obtain ⟨j, hj⟩ : ∃ j, s = lo + j := ⟨s - lo, by omega⟩
  have HP : Hid (s = lo + j) := hj
  have hjm : j < m := by have := HMM.out; omega
  have hjm' : (j : Int) < (m : Int) := by omega
  have hjm2 : (j : Int) ≤ (m : Int) := by omega
  have d1' : Hid (M.dep (fun i => B (lo + i)) j + 1 = M.dep (fun i => B (lo + i)) m) := by
    show _ = _
    rw [dep_shift, dep_shift, ← hj, show lo + m = q by have := HMM.out; omega]
    omega
  have d2' : Hid (∀ i, j < i → i ≤ m → M.dep (fun i => B (lo + i)) m ≤ M.dep (fun i => B (lo + i)) i) := fun i h3 h4 => by
    rw [dep_shift, dep_shift, show lo + m = q by have := HMM.out; omega]
    have := dd2 (lo + i) (by omega) (by have := HMM.out; omega)
    omega
  have ST1 : Hid (M.stk (M.nodeE g.nr) B q = (s, y) :: M.stk (M.nodeE g.nr) B s) := st1
  have ST2 : Hid (M.stk (M.nodeE g.nr) B s = (lo, z) :: M.stk (M.nodeE g.nr) B lo) := st2
  have HSQ : Hid (lo < s ∧ s < q) := ⟨hls, hsq⟩
  have HZL : Hid (wsum (fun i => B (lo + i)) j = z.len) := seg_len (HF.out.less (by omega)) st2 (by omega)
  obtain ⟨zl, hzl⟩ : ∃ zl, z.len = zl := ⟨_, rfl⟩
  have HZZ : Hid (z.len = zl) := hzl
  have hzb : zl ≤ 100000 := by have := HPB.out; have := HXL.out; omega
  have HOP : Hid (∀ W, Below w.heap.size w W → ∀ i, i < m + 1 → OpC Q W b (o + i * 3) (B (lo + i))) := fun W hW i hi => by
    have := (HB.out (lo + i) (by have := HMM.out; omega)).later hW
    rw [show off + (lo + i) * 3 = o + i * 3 by have := HO.out; omega] at this
    exact this
  have z1 : ¬ c = j := by omega
  have z2 : j ≤ m := by omega
  have z4 : j ≤ c := by omega
  have z7 := wrap_small j (by omega)
  have hwrp : IntKind.i64.wrap ((p : Int) + (zl : Int)) = (p : Int) + (zl : Int) := by
    have := wrap_small (p + zl) (by omega)
    push_cast at this
    exact this
  obtain ⟨xl, hxl⟩ : ∃ xl, x.len = xl := ⟨_, rfl⟩
  have HXX : Hid (x.len = xl) := hxl
  have hxlb : xl ≤ 100000 := by have := HPB.out; omega
  have HT1 : Hid ((p : Int) + (zl : Int) + 2 = ((p + z.len + 2 : Nat) : Int)) := by show _ = _; have := HZZ.out; omega
  have HT2 : Hid ((p : Int) + (xl : Int) = ((p + z.len + y.len + 2 : Nat) : Int)) := by show _ = _; have := HXL.out; omega
  clear hxl
  clear st1 st2 hx hxs dd1 dd2 hj hls hsq har hzl hkd
  go_enter Try.func145, Try.ntmps145
  go_wp2_with fail
  refine (l2start_any b o (m + 1) c (fun i => B (lo + i)) _ Q (HOP.out _ (bel2 w _ _)) (by omega) m j (by omega) hjm d1'.out d2'.out).mono ?_
  rintro e W ⟨rfl, hw⟩
  subst W
  go_wp2_with fail
  refine (l4size_seg (fun _ => True) (some ⟨b, o, none⟩) j c (fun i => B (lo + i)) _ (HOPS.out _ (bel2 w _ _) j (by omega)) (fun i hi => HKS.out i (by omega)) (by omega) (HZL.out.trans HZZ.out)).mono ?_
  rintro e W ⟨rfl, hw⟩
  subst W
  go_wp2_with fail
  generalize (w.alloc (.cells #[.slice ra g.nr rc, .slice la g.nb lc] 36)).alloc (.cells #[.int .i64 (B q).kind, .slice sa (B q).sl sc, .int .i64 (B q).arg] 95) = X at *
  have BX : Hid (Below w.heap.size w X) := bX
  clear bX c0 c1 c2 xk xs xa
  have R0 := row_ic (w := X) 1 0 ((p : Int) + (zl : Int) + 2) (Below.refl _ _)
  rw [HXZ.out] at R0
  have HR0 : Hid (IRow X (X.alloc (.cells #[.int .i64 1, .int .i64 0, .int .i64 ((p : Int) + (zl : Int) + 2), .slice none 0 0] 118)) (.slice (some ⟨w.heap.size + 1 + 1, 0, none⟩) 1 1) [ic 1 0 ((p : Int) + (zl : Int) + 2)]) := R0
  have BW1 : Hid (Below w.heap.size w (X.alloc (.cells #[.int .i64 1, .int .i64 0, .int .i64 ((p : Int) + (zl : Int) + 2), .slice none 0 0] 118))) := bel_tr BX.out (bel1 X _)
  clear R0
  refine (IH.out s (by have := HSQ.out; omega) lo _ _ _ z (p + 1) _ _ (by omega) (by have := HSQ.out; omega) (HF.out.less (by have := HSQ.out; omega)) ST2.out HO.out (by have := HP.out; omega) z4 (fun i hi => (HB.out i hi).later BW1.out) (HG.out.later BW1.out) (by have := HPB.out; have := HXL.out; omega)).mono ?_
  rintro e W2 ⟨a2, n2, c2, L2, rfl, HN2, HM2, HR2⟩
  have HLL : Hid (L2.length = z.len) := by show _ = _; rw [(len_of HN2.out HM2.out).1, M.emit_len]
  go_wp2_with (at_builtin; refine rowA (L := [ic 1 0 ((p : Int) + (zl : Int) + 2)]) (L2 := L2) rfl _ _ rfl rfl rfl HR0.out HR2.out (by show 1 + L2.length ≤ 16777216; have := HLL.out; have := HZZ.out; omega) ?_; intro W3 L3 n3 a3 c3 E1 E2 E3; have y0 := cell_on xg0 E3.out.bel; have y1 := cell_on xg1 E3.out.bel; have lw3 := lt_of_cell y0)
  have BW3 : Hid (Below w.heap.size w W3) := bel_tr BX.out E3.out.bel
  refine (l4size_seg (fun _ => True) (some ⟨b, o, none⟩) (m + 1) c (fun i => B (lo + i)) _ (HOPS.out _ BW3.out (m + 1) (Nat.le_refl _)) HKS.out x4 (HSG.out.trans HXX.out)).mono ?_
  rintro e W ⟨rfl, hw⟩
  subst W
  go_wp2_with (at_builtin; refine rowA (L := L3) (L2 := [ic 2 0 ((p : Int) + (xl : Int))]) rfl _ _ rfl rfl rfl E3.out (row_ic 2 0 ((p : Int) + (xl : Int)) (Below.refl _ W3)) (by show L3.length + 1 ≤ 16777216; have h1 := HLL.out; have := HZZ.out; rw [E1.out, List.length_append]; show 1 + L2.length + 1 ≤ 16777216; omega) ?_; intro W4 L4 n4 a4 c4 G1 G2 G3; have u0 := cell_on xg0 G3.out.bel; have u1 := cell_on xg1 G3.out.bel; have lw4 := lt_of_cell u0)
  have BW4 : Hid (Below w.heap.size w W4) := bel_tr BX.out G3.out.bel
  refine (IH.out q (by omega) s _ _ _ y (p + zl + 2) _ _ (by omega) (by omega) (HF.out.less (by omega)) ST1.out (by have := HO.out; have := HP.out; omega) (by have := HMM.out; have := HP.out; omega) (by omega) (fun i hi => (HB.out i hi).later BW4.out) (HG.out.later BW4.out) (by have := HPB.out; have := HXL.out; have := HZZ.out; omega)).mono ?_
  rintro e W5 ⟨a5, n5, c5, L5, rfl, HN5, HM5, HR5⟩
  have HL5 : Hid (L5.length = y.len) := by show _ = _; rw [(len_of HN5.out HM5.out).1, M.emit_len]
  go_wp2_with (at_builtin; refine rowA (L := L4) (L2 := L5) rfl _ _ rfl rfl rfl G3.out HR5.out (by have h1 := HLL.out; have h2 := HL5.out; have := HZZ.out; have := HPB.out; have := HXL.out; rw [G1.out, E1.out, List.length_append, List.length_append]; show 1 + L2.length + 1 + L5.length ≤ 16777216; omega) ?_; intro W6 L6 n6 a6 c6 K1 K2 K3)
  go_ret
  refine givesR (K3.out.since BX.out) ?_
  rw [K1.out, G1.out, E1.out, HX.out, emit, List.map_append, List.map_append, List.map_append, HM2.out, HM5.out]
  show [ins 1 0 ((p : Int) + (zl : Int) + 2)] ++ emit (plc g) z (p + 1) ++ [ins 2 0 ((p : Int) + (xl : Int))] ++ emit (plc g) y (p + zl + 2) = _
  rw [HT1.out, HT2.out, HZZ.out]
  simp

end Go.Proofs.Ytjndcajblpgjmaa
