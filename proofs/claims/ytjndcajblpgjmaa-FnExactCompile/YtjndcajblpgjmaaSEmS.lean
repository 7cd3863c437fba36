/-
  Walks: the specification's instructions of an expression, one kind.
-/
import Derived.Test.YtjndcajblpgjmaaSEmA
namespace Go.Proofs.Ytjndcajblpgjmaa
open Go.RowKit
open M (OpD NodeD Gr InsD EX ins emit wsum wt)
set_option linter.unusedVariables false
set_option linter.unusedSimpArgs false

set_option maxRecDepth 100000 in
set_option maxHeartbeats 16000000 in
theorem l4expr_seq (Q : Nat → Prop) (ra la : Option Addr) (rc lc : Nat) (g : Gr) (hV : M.Valid g) (b off N : Nat) (B : Nat → OpD) (hN : N ≤ 2000)
    (hok : ∀ i, i < N → M.ElemOK g.nr g.nb (B i)) (q : Nat) (ih : ∀ m, m < q + 1 → ∀ (lo o c l : Nat) (x : EX) (p : Nat) (pv : Int) (w : World), pv = (p : Int) → m ≤ N → M.Fed B m → M.stk (M.nodeE g.nr) B m = (lo, x) :: M.stk (M.nodeE g.nr) B lo → o = off + lo * 3 → l + lo = m → l ≤ c →
      (∀ i, i < N → OpC Q w b (off + i * 3) (B i)) → GramX Q w ra la g → p + x.len ≤ 100000 →
      Calls Try.prog 145 #[.agg #[.slice ra g.nr rc, .slice la g.nb lc], .slice (some ⟨b, o, none⟩) l c, .int .i64 pv] w (GivesR (emit (plc g) x p) w)) (hkd : (B q).kind = 4) : ∀ (lo o c l : Nat) (x : EX) (p : Nat) (pv : Int) (w : World), pv = (p : Int) → (q + 1) ≤ N → M.Fed B (q + 1) → M.stk (M.nodeE g.nr) B (q + 1) = (lo, x) :: M.stk (M.nodeE g.nr) B lo → o = off + lo * 3 → l + lo = (q + 1) → l ≤ c →
      (∀ i, i < N → OpC Q w b (off + i * 3) (B i)) → GramX Q w ra la g → p + x.len ≤ 100000 →
      Calls Try.prog 145 #[.agg #[.slice ra g.nr rc, .slice la g.nb lc], .slice (some ⟨b, o, none⟩) l c, .int .i64 pv] w (GivesR (emit (plc g) x p) w) := by
  intro lo o c l x p pv w hpv hle hF hst ho hl hc hB hG hpb
  subst hpv
  obtain ⟨hlo, _, _⟩ := M.stk_cons _ B (q + 1) hF lo x _ hst
  have IH : Hid (∀ m, m < q + 1 → ∀ (lo o c l : Nat) (x : EX) (p : Nat) (pv : Int) (w : World), pv = (p : Int) → m ≤ N → M.Fed B m → M.stk (M.nodeE g.nr) B m = (lo, x) :: M.stk (M.nodeE g.nr) B lo → o = off + lo * 3 → l + lo = m → l ≤ c →
    (∀ i, i < N → OpC Q w b (off + i * 3) (B i)) → GramX Q w ra la g → p + x.len ≤ 100000 →
    Calls Try.prog 145 #[.agg #[.slice ra g.nr rc, .slice la g.nb lc], .slice (some ⟨b, o, none⟩) l c, .int .i64 pv] w (GivesR (emit (plc g) x p) w)) := ih
  have HB : Hid (∀ i, i < N → OpC Q w b (off + i * 3) (B i)) := hB
  have HG : Hid (GramX Q w ra la g) := hG
  have HK : Hid (∀ i, i < N → M.ElemOK g.nr g.nb (B i)) := hok
  have HF : Hid (M.Fed B (q + 1)) := hF
  have HS : Hid (M.stk (M.nodeE g.nr) B (q + 1) = (lo, x) :: M.stk (M.nodeE g.nr) B lo) := hst
  have HV : Hid (M.Valid g) := hV
  have h1 := hV.r2
  have h2 := hV.l2
  obtain ⟨m, rfl⟩ : ∃ m, l = m + 1 := ⟨l - 1, by omega⟩
  have hm : m + lo = q := by omega
  obtain ⟨c0, ⟨sa, sc, c1, hss⟩, c2⟩ := hB q (by omega)
  have eo : off + q * 3 = o + m * 3 := by omega
  rw [eo] at c0 c1 c2
  have hbl : b < w.heap.size := lt_of_cell c0
  have hE := hok q (by omega)
  have HE : Hid (M.ElemOK g.nr g.nb (B q)) := hE
  have k0 := hE.1
  have k7 := hE.2.1
  have ha0 : 0 ≤ (B q).arg := hE.2.2.2.2.1
  have HSS : Hid (Ints Q .i64 w sa (B q).sl (B q).set) := hss
  have x2 : ((m + 1 : Nat) : Int) - 1 = (m : Int) := by omega
  have x3 : (m : Int) < ((m + 1 : Nat) : Int) := by omega
  have x4 : m + 1 ≤ 2000 := by omega
  have hll : lo < q + 1 := hlo
  have HPB : Hid (p + x.len ≤ 100000) := hpb
  have hpp : p ≤ 100000 := by omega
  clear hB hok hF hst ih hss hE hG hV hpb
  have HO : Hid (o = off + lo * 3) := ho
  have HMM : Hid (m + lo = q) := hm
  clear ho hm hl
  have bX : Below w.heap.size w ((w.alloc (.cells #[.slice ra g.nr rc, .slice la g.nb lc] 36)).alloc (.cells #[.int .i64 (B q).kind, .slice sa (B q).sl sc, .int .i64 (B q).arg] 95)) := bel2 w _ _
  have xg0 : ((w.alloc (.cells #[.slice ra g.nr rc, .slice la g.nb lc] 36)).alloc (.cells #[.int .i64 (B q).kind, .slice sa (B q).sl sc, .int .i64 (B q).arg] 95)).cell? ⟨w.heap.size, 0, none⟩ = some (.slice ra g.nr rc) := cell_on (cN w.heap.size rfl rfl) (bel1 _ _)
  have xg1 : ((w.alloc (.cells #[.slice ra g.nr rc, .slice la g.nb lc] 36)).alloc (.cells #[.int .i64 (B q).kind, .slice sa (B q).sl sc, .int .i64 (B q).arg] 95)).cell? ⟨w.heap.size, 1, none⟩ = some (.slice la g.nb lc) := cell_on (cN w.heap.size rfl rfl) (bel1 _ _)
  have xk : ((w.alloc (.cells #[.slice ra g.nr rc, .slice la g.nb lc] 36)).alloc (.cells #[.int .i64 (B q).kind, .slice sa (B q).sl sc, .int .i64 (B q).arg] 95)).cell? ⟨w.heap.size + 1, 0, none⟩ = some (.int .i64 (B q).kind) := cN (w.heap.size + 1) (by simp) rfl
  have xs : ((w.alloc (.cells #[.slice ra g.nr rc, .slice la g.nb lc] 36)).alloc (.cells #[.int .i64 (B q).kind, .slice sa (B q).sl sc, .int .i64 (B q).arg] 95)).cell? ⟨w.heap.size + 1, 1, none⟩ = some (.slice sa (B q).sl sc) := cN (w.heap.size + 1) (by simp) rfl
  have xa : ((w.alloc (.cells #[.slice ra g.nr rc, .slice la g.nb lc] 36)).alloc (.cells #[.int .i64 (B q).kind, .slice sa (B q).sl sc, .int .i64 (B q).arg] 95)).cell? ⟨w.heap.size + 1, 2, none⟩ = some (.int .i64 (B q).arg) := cN (w.heap.size + 1) (by simp) rfl
  have HXZ : Hid (((w.alloc (.cells #[.slice ra g.nr rc, .slice la g.nb lc] 36)).alloc (.cells #[.int .i64 (B q).kind, .slice sa (B q).sl sc, .int .i64 (B q).arg] 95)).heap.size = w.heap.size + 1 + 1) := by show _ = _; simp
  have hXs : w.heap.size + 1 < ((w.alloc (.cells #[.slice ra g.nr rc, .slice la g.nb lc] 36)).alloc (.cells #[.int .i64 (B q).kind, .slice sa (B q).sl sc, .int .i64 (B q).arg] 95)).heap.size := lt_of_cell xk
  have HOPS : Hid (∀ W, Below w.heap.size w W → ∀ n, n ≤ m + 1 → OpsA (fun _ => True) W (some ⟨b, o, none⟩) n (fun i => B (lo + i))) := fun W hW n hn => .inr ⟨b, o, rfl, trivial, fun i hi => by
    have := ((HB.out (lo + i) (by have := HMM.out; omega)).later hW).wide (Q' := fun _ => True) (fun _ _ => trivial)
    rw [show off + (lo + i) * 3 = o + i * 3 by have := HO.out; omega] at this
    exact this⟩
  have HKS : Hid (∀ i, i < m + 1 → 0 ≤ (B (lo + i)).kind ∧ (B (lo + i)).kind ≤ 7) := fun i hi => elem_kinds HK.out (lo + i) (by have := HMM.out; omega)
  have HSG : Hid (wsum (fun i => B (lo + i)) (m + 1) = x.len) := seg_len HF.out HS.out (by have := HMM.out; omega)
  have z6 := wrap_small m (by omega)
  have hcm : m < c := by omega
  have hcm' : m ≤ c := by omega
  have hcz : ¬ c = 0 := by omega
  have n0 : ((B q).kind == 0) = false := by simp [hkd]
  have n1 : ((B q).kind == 1) = false := by simp [hkd]
  have n2 : ((B q).kind == 2) = false := by simp [hkd]
  have n3 : ((B q).kind == 3) = false := by simp [hkd]
  have f4 : ((B q).kind == 4) = true := by simp [hkd]
  have n5 : ((B q).kind == 5) = false := by simp [hkd]
  have n6 : ((B q).kind == 6) = false := by simp [hkd]
  have n7 : ((B q).kind == 7) = false := by simp [hkd]
  have har : M.ar (B q).kind = 2 := by simp [M.ar, hkd]
  obtain ⟨s, y, z, hls, hsq, st1, st2, hx, dd1, dd2⟩ := bin_splitG _ B q lo x HF.out har HS.out
  have hxs : x = .seq z y := by rw [hx]; simp [M.nodeE, hkd]
  have HX : Hid (x = .seq z y) := hxs
  have HXL : Hid (x.len = z.len + y.len) := by show _ = _; rw [hxs]; rfl
  obtain ⟨j, hj⟩ : ∃ j, s = lo + j := ⟨s - lo, by omega⟩
  have HP : Hid (s = lo + j) := hj
  have hjm : j < m := by have := HMM.out; omega
  have hjm' : (j : Int) < (m : Int) := by omega
  have hjm2 : (j : Int) ≤ (m : Int) := by omega
  have d1' : Hid (M.dep (fun i => B (lo + i)) j + 1 = M.dep (fun i => B (lo + i)) m) := by
    show _ = _
    rw [dep_shift, dep_shift, ← hj, show lo + m = q by have := HMM.out; omega]
    omega
  have d2' : Hid (∀ i, j < i → i ≤ m → M.dep (fun i => B (lo + i)) m ≤ M.dep (fun i => B (lo + i)) i) := fun i h3 h4 => by
    rw [dep_shift, dep_shift, show lo + m = q by have := HMM.out; omega]
    have := dd2 (lo + i) (by omega) (by have := HMM.out; omega)
    omega
  have ST1 : Hid (M.stk (M.nodeE g.nr) B q = (s, y) :: M.stk (M.nodeE g.nr) B s) := st1
  have ST2 : Hid (M.stk (M.nodeE g.nr) B s = (lo, z) :: M.stk (M.nodeE g.nr) B lo) := st2
  have HSQ : Hid (lo < s ∧ s < q) := ⟨hls, hsq⟩
  have HZL : Hid (wsum (fun i => B (lo + i)) j = z.len) := seg_len (HF.out.less (by omega)) st2 (by omega)
  obtain ⟨zl, hzl⟩ : ∃ zl, z.len = zl := ⟨_, rfl⟩
  have HZZ : Hid (z.len = zl) := hzl
  have hzb : zl ≤ 100000 := by have := HPB.out; have := HXL.out; omega
  have HOP : Hid (∀ W, Below w.heap.size w W → ∀ i, i < m + 1 → OpC Q W b (o + i * 3) (B (lo + i))) := fun W hW i hi => by
    have := (HB.out (lo + i) (by have := HMM.out; omega)).later hW
    rw [show off + (lo + i) * 3 = o + i * 3 by have := HO.out; omega] at this
    exact this
  have z1 : ¬ c = j := by omega
  have z2 : j ≤ m := by omega
  have z4 : j ≤ c := by omega
  have z7 := wrap_small j (by omega)
  have hwrp : IntKind.i64.wrap ((p : Int) + (zl : Int)) = (p : Int) + (zl : Int) := by
    have := wrap_small (p + zl) (by omega)
    push_cast at this
    exact this
  clear st1 st2 hx hxs dd1 dd2 hj hls hsq har hzl hkd
  go_enter Try.func145, Try.ntmps145
  go_wp2_with fail
  refine (l2start_any b o (m + 1) c (fun i => B (lo + i)) _ Q (HOP.out _ (bel2 w _ _)) (by omega) m j (by omega) hjm d1'.out d2'.out).mono ?_
  rintro e W ⟨rfl, hw⟩
  subst W
  go_wp2_with fail
  generalize (w.alloc (.cells #[.slice ra g.nr rc, .slice la g.nb lc] 36)).alloc (.cells #[.int .i64 (B q).kind, .slice sa (B q).sl sc, .int .i64 (B q).arg] 95) = X at *
  have BX : Hid (Below w.heap.size w X) := bX
  clear bX c0 c1 c2 xk xs xa
  refine (IH.out s (by have := HSQ.out; omega) lo _ _ _ z p _ _ rfl (by have := HSQ.out; omega) (HF.out.less (by have := HSQ.out; omega)) ST2.out HO.out (by have := HP.out; omega) z4 (fun i hi => (HB.out i hi).later BX.out) (HG.out.later BX.out) (by have := HPB.out; have := HXL.out; omega)).mono ?_
  rintro e W2 ⟨a2, n2, c2, L2, rfl, HN2, HM2, HR2⟩
  have HLL : Hid (L2.length = z.len) := by show _ = _; rw [(len_of HN2.out HM2.out).1, M.emit_len]
  have y0 := cell_on xg0 HR2.out.bel
  have y1 := cell_on xg1 HR2.out.bel
  have BW2 : Hid (Below w.heap.size w W2) := bel_tr BX.out HR2.out.bel
  go_wp2_with fail
  go_region_held3 (fun W' => W'.cell? ⟨w.heap.size, 0, none⟩ = some (.slice ra g.nr rc) ∧ W'.cell? ⟨w.heap.size, 1, none⟩ = some (.slice la g.nb lc))
    (first | exact ⟨u0, u1⟩ | exact ⟨y0, y1⟩ | go_keep)
    (first
      | (refine stepC1 enter180 rfl (.tmp 124) 74 rfl (y1 := .slice (some ⟨b, o, none⟩) j c) (by simp [Act.eval, Act.put]) ((l4size_seg (fun _ => True) (some ⟨b, o, none⟩) j c (fun i => B (lo + i)) W2.drew (HOPS.out _ BW2.out.drew j (by omega)) (fun i hi => HKS.out i (by omega)) (by omega) (HZL.out.trans HZZ.out)).mono ?_)
         rintro e W ⟨rfl, hw⟩
         subst W
         refine ⟨_, rfl, ?_⟩)
      | (refine stepC3 enter145 rfl (.tmp 121) (.tmp 122) (.tmp 126) 36 74 3 rfl (y1 := .agg #[.slice ra g.nr rc, .slice la g.nb lc]) (y2 := .slice (some ⟨b, o + j * 3, none⟩) (m - j) (c - j)) (y3 := .int .i64 ((p : Int) + (zl : Int))) (by simp [Act.eval, Act.put]) (by simp [Act.eval, Act.put]) (by simp [Act.eval, Act.put, hwrp]) ((IH.out q (by omega) s _ _ _ y (p + zl) _ W2.drew (by omega) (by omega) (HF.out.less (by omega)) ST1.out (by have := HO.out; have := HP.out; omega) (by have := HMM.out; have := HP.out; omega) (by omega) (fun i hi => (HB.out i hi).later BW2.out.drew) (HG.out.later BW2.out.drew) (by have := HPB.out; have := HXL.out; have := HZZ.out; omega)).mono ?_)
         rintro e W3 ⟨a3, n3, c3, L3, rfl, HN3, HM3, HR3⟩
         have u0 := cell_on (w := W2.drew) (a := ⟨w.heap.size, 0, none⟩) (v := .slice ra g.nr rc) y0 HR3.out.bel
         have u1 := cell_on (w := W2.drew) (a := ⟨w.heap.size, 1, none⟩) (v := .slice la g.nb lc) y1 HR3.out.bel
         refine ⟨_, rfl, ?_⟩)
      | (refine rowS (w0 := X) (w1 := W2.drew) (L := L2) (L2 := L3) rfl (.tmp 120) (.tmp 127) rfl (v := .slice a2 n2 c2) (y := .slice a3 n3 c3) (by simp [Act.eval, Act.put]) (by simp [Act.eval, Act.put]) (HR2.out.later (Below.refl _ W2).drew) HR3.out (by have h1 := HLL.out; have h2 := (len_of HN3.out HM3.out).1; rw [M.emit_len] at h2; have := HPB.out; have := HXL.out; omega) ?_
         intro W4 L4 n4 a4 c4 E1 E2 E3
         have u0 := cell_on xg0 E3.out.bel
         have u1 := cell_on xg1 E3.out.bel))
  all_goals go_goals
  all_goals go_wp2
  all_goals go_ret
  all_goals exact givesR (E3.out.since BX.out) (by rw [E1.out, HX.out, emit, List.map_append, HM2.out, HM3.out, HZZ.out])

end Go.Proofs.Ytjndcajblpgjmaa
