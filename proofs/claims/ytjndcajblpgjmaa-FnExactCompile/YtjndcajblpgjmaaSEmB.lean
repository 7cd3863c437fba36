/-
  Walks: the specification's instructions of leaves and repetitions.
-/
import Derived.Test.YtjndcajblpgjmaaSEmA
namespace Go.Proofs.Ytjndcajblpgjmaa
open Go.RowKit
open M (OpD NodeD Gr InsD EX ins emit wsum wt)
set_option linter.unusedVariables false
set_option linter.unusedSimpArgs false

set_option maxRecDepth 100000 in
set_option maxHeartbeats 16000000 in
theorem l4expr_one (Q : Nat → Prop) (ra la : Option Addr) (rc lc : Nat) (g : Gr) (hV : M.Valid g) (b off N : Nat) (B : Nat → OpD) (hN : N ≤ 2000)
    (hok : ∀ i, i < N → M.ElemOK g.nr g.nb (B i)) (q : Nat) (ih : ∀ m, m < q + 1 → ∀ (lo o c l : Nat) (x : EX) (p : Nat) (pv : Int) (w : World), pv = (p : Int) → m ≤ N → M.Fed B m → M.stk (M.nodeE g.nr) B m = (lo, x) :: M.stk (M.nodeE g.nr) B lo → o = off + lo * 3 → l + lo = m → l ≤ c →
      (∀ i, i < N → OpC Q w b (off + i * 3) (B i)) → GramX Q w ra la g → p + x.len ≤ 100000 →
      Calls Try.prog 145 #[.agg #[.slice ra g.nr rc, .slice la g.nb lc], .slice (some ⟨b, o, none⟩) l c, .int .i64 pv] w (GivesR (emit (plc g) x p) w)) (hkd : (B q).kind = 0 ∨ (B q).kind = 1 ∨ (B q).kind = 2 ∨ (B q).kind = 3 ∨ (B q).kind = 6) : ∀ (lo o c l : Nat) (x : EX) (p : Nat) (pv : Int) (w : World), pv = (p : Int) → (q + 1) ≤ N → M.Fed B (q + 1) → M.stk (M.nodeE g.nr) B (q + 1) = (lo, x) :: M.stk (M.nodeE g.nr) B lo → o = off + lo * 3 → l + lo = (q + 1) → l ≤ c →
      (∀ i, i < N → OpC Q w b (off + i * 3) (B i)) → GramX Q w ra la g → p + x.len ≤ 100000 →
      Calls Try.prog 145 #[.agg #[.slice ra g.nr rc, .slice la g.nb lc], .slice (some ⟨b, o, none⟩) l c, .int .i64 pv] w (GivesR (emit (plc g) x p) w) := by
  intro lo o c l x p pv w hpv hle hF hst ho hl hc hB hG hpb
  subst hpv
  obtain ⟨hlo, _, _⟩ := M.stk_cons _ B (q + 1) hF lo x _ hst
  have IH : Hid (∀ m, m < q + 1 → ∀ (lo o c l : Nat) (x : EX) (p : Nat) (pv : Int) (w : World), pv = (p : Int) → m ≤ N → M.Fed B m → M.stk (M.nodeE g.nr) B m = (lo, x) :: M.stk (M.nodeE g.nr) B lo → o = off + lo * 3 → l + lo = m → l ≤ c →
    (∀ i, i < N → OpC Q w b (off + i * 3) (B i)) → GramX Q w ra la g → p + x.len ≤ 100000 →
    Calls Try.prog 145 #[.agg #[.slice ra g.nr rc, .slice la g.nb lc], .slice (some ⟨b, o, none⟩) l c, .int .i64 pv] w (GivesR (emit (plc g) x p) w)) := ih
  have HB : Hid (∀ i, i < N → OpC Q w b (off + i * 3) (B i)) := hB
  have HG : Hid (GramX Q w ra la g) := hG
  have HK : Hid (∀ i, i < N → M.ElemOK g.nr g.nb (B i)) := hok
  have HF : Hid (M.Fed B (q + 1)) := hF
  have HS : Hid (M.stk (M.nodeE g.nr) B (q + 1) = (lo, x) :: M.stk (M.nodeE g.nr) B lo) := hst
  have HV : Hid (M.Valid g) := hV
  have h1 := hV.r2
  have h2 := hV.l2
  obtain ⟨m, rfl⟩ : ∃ m, l = m + 1 := ⟨l - 1, by omega⟩
  have hm : m + lo = q := by omega
  obtain ⟨c0, ⟨sa, sc, c1, hss⟩, c2⟩ := hB q (by omega)
  have eo : off + q * 3 = o + m * 3 := by omega
  rw [eo] at c0 c1 c2
  have hbl : b < w.heap.size := lt_of_cell c0
  have hE := hok q (by omega)
  have HE : Hid (M.ElemOK g.nr g.nb (B q)) := hE
  have k0 := hE.1
  have k7 := hE.2.1
  have ha0 : 0 ≤ (B q).arg := hE.2.2.2.2.1
  have HSS : Hid (Ints Q .i64 w sa (B q).sl (B q).set) := hss
  have x2 : ((m + 1 : Nat) : Int) - 1 = (m : Int) := by omega
  have x3 : (m : Int) < ((m + 1 : Nat) : Int) := by omega
  have x4 : m + 1 ≤ 2000 := by omega
  have hll : lo < q + 1 := hlo
  have HPB : Hid (p + x.len ≤ 100000) := hpb
  have hpp : p ≤ 100000 := by omega
  clear hB hok hF hst ih hss hE hG hV hpb
  have HO : Hid (o = off + lo * 3) := ho
  have HMM : Hid (m + lo = q) := hm
  clear ho hm hl
  by_cases e0 : (B q).kind = 0
  · have HX : Hid (x = .empty) := by show _ = _; rw [leaf_splitG _ B q lo x (by simp [M.ar, e0]) HS.out]; simp [M.nodeE, e0]
    have f0 : ((B q).kind == 0) = true := by simp [e0]
    clear e0
    go_enter Try.func145, Try.ntmps145
    go_wp2
    go_ret
    exact givesR (IRow.nil (bel2 w _ _)) (by rw [HX.out]; rfl)
  have n0 : ((B q).kind == 0) = false := by simp [e0]
  by_cases e1 : (B q).kind = 1
  · have HX : Hid (x = .set (B q).sl (B q).set) := by show _ = _; rw [leaf_splitG _ B q lo x (by simp [M.ar, e1]) HS.out]; simp [M.nodeE, e1]
    have f1 : ((B q).kind == 1) = true := by simp [e1]
    have hsl : (B q).sl ≤ 1048576 := by have := canonLen (HE.out.2.2.1 e1); omega
    clear e1 e0
    go_enter Try.func145, Try.ntmps145
    go_wp2_with (at_builtin; refine cloneA rfl _ _ rfl rfl rfl (HSS.out.later (bel2 w _ _)) hsl ?_; intro W a' c' E1 E2)
    go_ret
    exact givesR (row_one (x := ⟨⟨0, 0, 0, (B q).sl, (B q).set⟩, a', c'⟩) (S := New w W) (bel_tr (bel2 w _ _) E2.out) (E1.out.wide (fun z hz => ⟨Nat.le_trans (bel2 w _ _).size hz.1, hz.2⟩)) (fun z hz => hz)) (by rw [HX.out]; rfl)
  have n1 : ((B q).kind == 1) = false := by simp [e1]
  by_cases e2 : (B q).kind = 2
  · have HX : Hid (x = .ref (B q).arg.toNat) := by show _ = _; rw [leaf_splitG _ B q lo x (by simp [M.ar, e2]) HS.out]; simp [M.nodeE, e2]
    have f2 : ((B q).kind == 2) = true := by simp [e2]
    have k6 := HE.out.2.2.2.2.2
    unfold M.most at k6
    rw [if_neg (by omega), if_pos e2] at k6
    obtain ⟨j, hj⟩ : ∃ j : Nat, (B q).arg = (j : Int) := ⟨(B q).arg.toNat, by omega⟩
    have HJ : Hid ((B q).arg.toNat = j) := by show _ = _; omega
    rw [hj] at k6 c2
    have hjn : j < g.nr + g.nb := by omega
    clear e0 e1 e2 hj
    go_enter Try.func145, Try.ntmps145
    go_wp2_with (go_at_call 179; refine (l4place_any Q ra la rc lc g HV.out _ (HG.out.later (bel2 w _ _)) j hjn).mono ?_; rintro e W ⟨rfl, hb⟩; have HW : Hid (Below w.heap.size w W) := bel_tr (bel2 w _ _) hb; clear hb)
    go_ret
    exact givesR (row_ic 6 0 (plc g j) HW.out) (by rw [HX.out, HJ.out]; rfl)
  have n2 : ((B q).kind == 2) = false := by simp [e2]
  have bX : Below w.heap.size w ((w.alloc (.cells #[.slice ra g.nr rc, .slice la g.nb lc] 36)).alloc (.cells #[.int .i64 (B q).kind, .slice sa (B q).sl sc, .int .i64 (B q).arg] 95)) := bel2 w _ _
  have xg0 : ((w.alloc (.cells #[.slice ra g.nr rc, .slice la g.nb lc] 36)).alloc (.cells #[.int .i64 (B q).kind, .slice sa (B q).sl sc, .int .i64 (B q).arg] 95)).cell? ⟨w.heap.size, 0, none⟩ = some (.slice ra g.nr rc) := cell_on (cN w.heap.size rfl rfl) (bel1 _ _)
  have xg1 : ((w.alloc (.cells #[.slice ra g.nr rc, .slice la g.nb lc] 36)).alloc (.cells #[.int .i64 (B q).kind, .slice sa (B q).sl sc, .int .i64 (B q).arg] 95)).cell? ⟨w.heap.size, 1, none⟩ = some (.slice la g.nb lc) := cell_on (cN w.heap.size rfl rfl) (bel1 _ _)
  have xk : ((w.alloc (.cells #[.slice ra g.nr rc, .slice la g.nb lc] 36)).alloc (.cells #[.int .i64 (B q).kind, .slice sa (B q).sl sc, .int .i64 (B q).arg] 95)).cell? ⟨w.heap.size + 1, 0, none⟩ = some (.int .i64 (B q).kind) := cN (w.heap.size + 1) (by simp) rfl
  have xs : ((w.alloc (.cells #[.slice ra g.nr rc, .slice la g.nb lc] 36)).alloc (.cells #[.int .i64 (B q).kind, .slice sa (B q).sl sc, .int .i64 (B q).arg] 95)).cell? ⟨w.heap.size + 1, 1, none⟩ = some (.slice sa (B q).sl sc) := cN (w.heap.size + 1) (by simp) rfl
  have xa : ((w.alloc (.cells #[.slice ra g.nr rc, .slice la g.nb lc] 36)).alloc (.cells #[.int .i64 (B q).kind, .slice sa (B q).sl sc, .int .i64 (B q).arg] 95)).cell? ⟨w.heap.size + 1, 2, none⟩ = some (.int .i64 (B q).arg) := cN (w.heap.size + 1) (by simp) rfl
  have HXZ : Hid (((w.alloc (.cells #[.slice ra g.nr rc, .slice la g.nb lc] 36)).alloc (.cells #[.int .i64 (B q).kind, .slice sa (B q).sl sc, .int .i64 (B q).arg] 95)).heap.size = w.heap.size + 1 + 1) := by show _ = _; simp
  have hXs : w.heap.size + 1 < ((w.alloc (.cells #[.slice ra g.nr rc, .slice la g.nb lc] 36)).alloc (.cells #[.int .i64 (B q).kind, .slice sa (B q).sl sc, .int .i64 (B q).arg] 95)).heap.size := lt_of_cell xk
  by_cases e3 : (B q).kind = 3
  · have HX : Hid (x = .thr (B q).arg.toNat (g.nr + (B q).arg.toNat)) := by show _ = _; rw [leaf_splitG _ B q lo x (by simp [M.ar, e3]) HS.out]; simp [M.nodeE, e3]
    have f3 : ((B q).kind == 3) = true := by simp [e3]
    have k6 := HE.out.2.2.2.2.2
    unfold M.most at k6
    rw [if_pos e3] at k6
    have HTG : Hid (M.tg g.nr (B q) = g.nr + (B q).arg.toNat) := by show _ = _; unfold M.tg; rw [if_pos e3]
    have HNM : Hid (M.Names (B q)) := .inr e3
    have htg : M.tg g.nr (B q) < g.nr + g.nb := by rw [HTG.out]; omega
    have HAN : Hid (((B q).arg.toNat : Int) = (B q).arg) := by show _ = _; omega
    have ha1 : (B q).arg ≤ 1048576 := by omega
    clear e0 e1 e2 e3
    go_enter Try.func145, Try.ntmps145
    go_wp2_with fail
    generalize (w.alloc (.cells #[.slice ra g.nr rc, .slice la g.nb lc] 36)).alloc (.cells #[.int .i64 (B q).kind, .slice sa (B q).sl sc, .int .i64 (B q).arg] 95) = X at *
    have BX : Hid (Below w.heap.size w X) := bX
    clear bX c0 c1 c2
    generalize hqk : (B q).kind = qk at *
    have HQK : Hid ((B q).kind = qk) := hqk
    generalize hqa : (B q).arg = qa at *
    have HQA : Hid ((B q).arg = qa) := hqa
    clear hqk hqa
    go_region_held3 (fun W' => W'.cell? ⟨w.heap.size, 0, none⟩ = some (.slice ra g.nr rc) ∧ W'.cell? ⟨w.heap.size, 1, none⟩ = some (.slice la g.nb lc) ∧ W'.cell? ⟨w.heap.size + 1, 0, none⟩ = some (.int .i64 qk) ∧ W'.cell? ⟨w.heap.size + 1, 1, none⟩ = some (.slice sa (B q).sl sc) ∧ W'.cell? ⟨w.heap.size + 1, 2, none⟩ = some (.int .i64 qa))
      (first | exact ⟨z0, z1, z2, z3, z4⟩ | exact ⟨xg0, xg1, xk, xs, xa⟩ | go_keep)
      (first
        | (refine stepC2 enter136 rfl (.tmp 56) (.tmp 57) 36 95 rfl (y1 := .agg #[.slice ra g.nr rc, .slice la g.nb lc]) (y2 := .agg #[.int .i64 qk, .slice sa (B q).sl sc, .int .i64 qa]) (by simp [Act.eval, Act.put]) (by simp [Act.eval, Act.put]) ((target_at ra la sa g.nr rc g.nb lc sc (B q) X.drew HNM.out HQK.out HQA.out (by rw [HQA.out]; exact ha0) (by rw [HQA.out]; exact ha1) (by omega)).mono ?_)
           rintro e W2 ⟨rfl, hb2⟩
           have B2 : Hid (Below X.heap.size X W2) := (Below.refl _ X).drew.trans hb2
           have z0 := cell_on xg0 B2.out
           have z1 := cell_on xg1 B2.out
           have z2 := cell_on xk B2.out
           have z3 := cell_on xs B2.out
           have z4 := cell_on xa B2.out
           clear hb2
           refine ⟨_, rfl, ?_⟩)
        | (refine stepC2 enter179 rfl (.tmp 55) (.tmp 58) 36 3 rfl (y1 := .agg #[.slice ra g.nr rc, .slice la g.nb lc]) (y2 := .int .i64 ((M.tg g.nr (B q) : Nat) : Int)) (by simp [Act.eval, Act.put]) (by simp [Act.eval, Act.put]) ((l4place_any Q ra la rc lc g HV.out W2 (HG.out.later (bel_tr BX.out B2.out)) (M.tg g.nr (B q)) htg).mono ?_)
           rintro e W3 ⟨rfl, hb3⟩
           have B3 : Hid (Below X.heap.size X W3) := bel_tr B2.out hb3
           have z0 := cell_on xg0 B3.out
           have z1 := cell_on xg1 B3.out
           have z2 := cell_on xk B3.out
           have z3 := cell_on xs B3.out
           have z4 := cell_on xa B3.out
           clear hb3
           refine ⟨_, rfl, ?_⟩))
    all_goals go_goals
    all_goals go_wp2
    all_goals go_ret
    all_goals exact givesR (row_ic 8 qa (plc g (M.tg g.nr (B q))) (bel_tr BX.out B3.out)) (by rw [HX.out, HTG.out, emit, HAN.out]; rfl)
  have n3 : ((B q).kind == 3) = false := by simp [e3]
  have e6 : (B q).kind = 6 := by omega
  have HOPS : Hid (∀ W, Below w.heap.size w W → ∀ n, n ≤ m + 1 → OpsA (fun _ => True) W (some ⟨b, o, none⟩) n (fun i => B (lo + i))) := fun W hW n hn => .inr ⟨b, o, rfl, trivial, fun i hi => by
    have := ((HB.out (lo + i) (by have := HMM.out; omega)).later hW).wide (Q' := fun _ => True) (fun _ _ => trivial)
    rw [show off + (lo + i) * 3 = o + i * 3 by have := HO.out; omega] at this
    exact this⟩
  have HKS : Hid (∀ i, i < m + 1 → 0 ≤ (B (lo + i)).kind ∧ (B (lo + i)).kind ≤ 7) := fun i hi => elem_kinds HK.out (lo + i) (by have := HMM.out; omega)
  have HSG : Hid (wsum (fun i => B (lo + i)) (m + 1) = x.len) := seg_len HF.out HS.out (by have := HMM.out; omega)
  have z6 := wrap_small m (by omega)
  have hcm : m < c := by omega
  have hcm' : m ≤ c := by omega
  have hcz : ¬ c = 0 := by omega
  · have f6 : ((B q).kind == 6) = true := by simp [e6]
    have f7 : ((B q).kind == 7) = false := by simp [e6]
    obtain ⟨z, hlz, hst1, hxz⟩ := un_splitG _ B q lo x HF.out (by simp [M.ar, e6]) HS.out
    have hxs : x = .star z := by rw [hxz]; simp [M.nodeE, e6]
    have HX : Hid (x = .star z) := hxs
    have ST1 : Hid (M.stk (M.nodeE g.nr) B q = (lo, z) :: M.stk (M.nodeE g.nr) B lo) := hst1
    have HLQ : Hid (lo < q) := hlz
    have HXL : Hid (x.len = z.len + 2) := by show _ = _; rw [hxs]; rfl
    have hzb : p + z.len + 2 ≤ 100000 := by have := HPB.out; have := HXL.out; omega
    obtain ⟨xl, hxl⟩ : ∃ xl, x.len = xl := ⟨_, rfl⟩
    have HXX : Hid (x.len = xl) := hxl
    have hxlb : xl ≤ 100000 := by have := HPB.out; omega
    have HT1 : Hid ((p : Int) + (xl : Int) = ((p + z.len + 2 : Nat) : Int)) := by show _ = _; have := HXL.out; omega
    clear hst1 hxz hxs e0 e1 e2 e3 e6 hlz hxl
    go_enter Try.func145, Try.ntmps145
    go_wp2_with fail
    refine (l4size_seg (fun _ => True) (some ⟨b, o, none⟩) (m + 1) c (fun i => B (lo + i)) _ (HOPS.out _ (bel2 w _ _) (m + 1) (Nat.le_refl _)) HKS.out x4 (HSG.out.trans HXX.out)).mono ?_
    rintro e W ⟨rfl, hw⟩
    subst W
    go_wp2_with fail
    generalize (w.alloc (.cells #[.slice ra g.nr rc, .slice la g.nb lc] 36)).alloc (.cells #[.int .i64 (B q).kind, .slice sa (B q).sl sc, .int .i64 (B q).arg] 95) = X at *
    have BX : Hid (Below w.heap.size w X) := bX
    clear bX c0 c1 c2 xk xs xa
    have BX2 : Hid (Below X.heap.size X ((X.alloc (.cells #[.int .i64 1, .int .i64 0, .int .i64 ((p : Int) + (xl : Int)), .slice none 0 0] 118)).alloc (.cells #[.int .i64 3, .int .i64 0, .int .i64 ((p : Int) + 1), .slice none 0 0] 118))) := bel2 X _ _
    have l0 : Hid (((X.alloc (.cells #[.int .i64 1, .int .i64 0, .int .i64 ((p : Int) + (xl : Int)), .slice none 0 0] 118)).alloc (.cells #[.int .i64 3, .int .i64 0, .int .i64 ((p : Int) + 1), .slice none 0 0] 118)).cell? ⟨w.heap.size + 1 + 1 + 1, 0, none⟩ = some (.int .i64 3)) := cN (w.heap.size + 1 + 1 + 1) (by rw [World.size_alloc, HXZ.out]) rfl
    have l1 : Hid (((X.alloc (.cells #[.int .i64 1, .int .i64 0, .int .i64 ((p : Int) + (xl : Int)), .slice none 0 0] 118)).alloc (.cells #[.int .i64 3, .int .i64 0, .int .i64 ((p : Int) + 1), .slice none 0 0] 118)).cell? ⟨w.heap.size + 1 + 1 + 1, 1, none⟩ = some (.int .i64 0)) := cN (w.heap.size + 1 + 1 + 1) (by rw [World.size_alloc, HXZ.out]) rfl
    have l2 : Hid (((X.alloc (.cells #[.int .i64 1, .int .i64 0, .int .i64 ((p : Int) + (xl : Int)), .slice none 0 0] 118)).alloc (.cells #[.int .i64 3, .int .i64 0, .int .i64 ((p : Int) + 1), .slice none 0 0] 118)).cell? ⟨w.heap.size + 1 + 1 + 1, 2, none⟩ = some (.int .i64 ((p : Int) + 1))) := cN (w.heap.size + 1 + 1 + 1) (by rw [World.size_alloc, HXZ.out]) rfl
    have l3 : Hid (((X.alloc (.cells #[.int .i64 1, .int .i64 0, .int .i64 ((p : Int) + (xl : Int)), .slice none 0 0] 118)).alloc (.cells #[.int .i64 3, .int .i64 0, .int .i64 ((p : Int) + 1), .slice none 0 0] 118)).cell? ⟨w.heap.size + 1 + 1 + 1, 3, none⟩ = some (.slice none 0 0)) := cN (w.heap.size + 1 + 1 + 1) (by rw [World.size_alloc, HXZ.out]) rfl
    have R0 := row_ic (w := (X.alloc (.cells #[.int .i64 1, .int .i64 0, .int .i64 ((p : Int) + (xl : Int)), .slice none 0 0] 118)).alloc (.cells #[.int .i64 3, .int .i64 0, .int .i64 ((p : Int) + 1), .slice none 0 0] 118)) 1 0 ((p : Int) + (xl : Int)) (Below.refl _ _)
    rw [World.size_alloc, World.size_alloc, HXZ.out] at R0
    generalize (X.alloc (.cells #[.int .i64 1, .int .i64 0, .int .i64 ((p : Int) + (xl : Int)), .slice none 0 0] 118)).alloc (.cells #[.int .i64 3, .int .i64 0, .int .i64 ((p : Int) + 1), .slice none 0 0] 118) = X2 at *
    have HR0 : Hid (IRow X2 (X2.alloc (.cells #[.int .i64 1, .int .i64 0, .int .i64 ((p : Int) + (xl : Int)), .slice none 0 0] 118)) (.slice (some ⟨w.heap.size + 1 + 1 + 1 + 1, 0, none⟩) 1 1) [ic 1 0 ((p : Int) + (xl : Int))]) := R0
    have BW3 : Hid (Below w.heap.size w (X2.alloc (.cells #[.int .i64 1, .int .i64 0, .int .i64 ((p : Int) + (xl : Int)), .slice none 0 0] 118))) := bel_tr (bel_tr BX.out BX2.out) (bel1 X2 _)
    clear R0
    refine (IH.out q (by omega) lo _ _ _ z (p + 1) _ _ (by omega) (by omega) (HF.out.less (by omega)) ST1.out HO.out HMM.out hcm' (fun i hi => (HB.out i hi).later BW3.out) (HG.out.later BW3.out) (by omega)).mono ?_
    rintro e W2 ⟨a2, n2, c2, L2, rfl, HN2, HM2, HR2⟩
    have HLL : Hid (L2.length = z.len) := by show _ = _; rw [(len_of HN2.out HM2.out).1, M.emit_len]
    go_wp2_with (first
      | (at_builtin; refine rowA (L := [ic 1 0 ((p : Int) + (xl : Int))]) (L2 := L2) rfl _ _ rfl rfl rfl HR0.out HR2.out (by show 1 + L2.length ≤ 16777216; have := HLL.out; omega) ?_; intro W3 L3 n3 a3 c3 E1 E2 E3; have y0 := cell_on l0.out E3.out.bel; have y1 := cell_on l1.out E3.out.bel; have y2 := cell_on l2.out E3.out.bel; have y3 := cell_on l3.out E3.out.bel; have lw3 := lt_of_cell y0)
      | (at_builtin; refine rowA (L := L3) (L2 := [ic 3 0 ((p : Int) + 1)]) rfl _ _ rfl rfl rfl E3.out (row_ic 3 0 ((p : Int) + 1) (Below.refl _ W3)) (by show L3.length + 1 ≤ 16777216; have h1 := HLL.out; rw [E1.out, List.length_append]; show 1 + L2.length + 1 ≤ 16777216; omega) ?_; intro W4 L4 n4 a4 c4 G1 G2 G3))
    go_ret
    refine givesR (G3.out.since (bel_tr BX.out BX2.out)) ?_
    rw [G1.out, E1.out, HX.out, emit, List.map_append, List.map_append, HM2.out]
    show [ins 1 0 ((p : Int) + (xl : Int))] ++ emit (plc g) z (p + 1) ++ [ins 3 0 ((p : Int) + 1)] = _
    rw [HT1.out, show (p : Int) + 1 = ((p + 1 : Nat) : Int) by omega]
    simp

end Go.Proofs.Ytjndcajblpgjmaa
