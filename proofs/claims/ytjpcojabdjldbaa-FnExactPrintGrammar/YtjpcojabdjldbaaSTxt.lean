/-
  Walks: the text of an expression, by the specification.
-/
import Derived.Test.YtjpcojabdjldbaaSSet
import Derived.Test.YtjpcojabdjldbaaPTree
import Derived.Test.YtjpcojabdjldbaaSNul
namespace Go.Proofs.Ytjpcojabdjldbaa
open Go.RowKit
open M (OpD NodeD Gr TX b1 grp bindK)
set_option linter.unusedVariables false
set_option linter.unusedSimpArgs false

theorem bind_lt2 (k : Int) : decide (bindK k < 2) = ((k == 4) || (k == 5)) := by
  unfold bindK
  by_cases h4 : k = 4
  · simp [h4]
  · by_cases h5 : k = 5
    · simp [h5]
    · by_cases h6 : k = 6
      · simp [h6]
      · by_cases h7 : k = 7
        · simp [h7]
        · simp [h4, h5, h6, h7]
theorem bind_lt1 (k : Int) : decide (bindK k < 1) = (k == 5) := by
  unfold bindK
  by_cases h4 : k = 4
  · simp [h4]
  · by_cases h5 : k = 5
    · simp [h5]
    · by_cases h6 : k = 6
      · simp [h6]
      · by_cases h7 : k = 7
        · simp [h7]
        · simp [h4, h5, h6, h7]
theorem bind_lt4 (k : Int) (h0 : 0 ≤ k) (h7 : k ≤ 7) : decide (bindK k < 4) = decide (4 ≤ k) := by
  unfold bindK
  by_cases h4 : k = 4
  · simp [h4]
  · by_cases h5 : k = 5
    · simp [h5]
    · by_cases h6 : k = 6
      · simp [h6]
      · by_cases h7 : k = 7
        · simp [h7]
        · simp [h4, h5, h6, h7]; omega

theorem str_in {s : ByteArray} {ι : Type} {F : ι → World} {w : World} {f : FuncId} {args : Array Value} {n : ι} (hF : Below w.heap.size w (F n)) (hF' : ∀ W, Below w.heap.size w W → ∃ n, W = F n)
    (h : Calls Try.prog f args (F n) (GivesS s (F n))) : Calls Try.prog f args (F n) fun e w'' => e = .returned (.string s) ∧ ∃ m, w'' = F m :=
  h.mono fun e W q => ⟨q.1, hF' W (bel_tr hF q.2)⟩
theorem ret_str {a b : ByteArray} (h : a = b) : Ending.returned (.string a) = .returned (.string b) := by rw [h]

/-- How great the trees of the stack are. -/
theorem stk_text {g : Gr} (hV : M.Valid g) {B : Nat → OpD} {hi lo : Nat} {x : TX} {r : List (Nat × TX)} (hF : M.Fed B hi) (hE : ∀ i, i < hi → M.ElemOK g.nr g.nb (B i)) (h : M.stk (nodeG g) B hi = (lo, x) :: r) (hh : hi ≤ 2000) : x.text.size ≤ 2420000 := by
  have h1 := stk_fine hV B hi hE (lo, x) (by rw [h]; simp)
  have h2 := M.text_size x h1
  have h3 := stk_sz g B hi hF
  have h4 := mem_sz (l := M.stk (nodeG g) B hi) (p := (lo, x)) (by rw [h]; simp)
  rw [h3] at h4
  simp only at h4
  omega

set_option maxRecDepth 100000 in
set_option maxHeartbeats 16000000 in
theorem l2text_any (Q : Nat → Prop) (ra la : Option Addr) (rc lc : Nat) (g : Gr) (hV : M.Valid g) (b off N : Nat) (B : Nat → OpD) (hN : N ≤ 2000)
    (hok : ∀ i, i < N → M.ElemOK g.nr g.nb (B i)) (hi : Nat) : ∀ (lo o c l : Nat) (x : TX) (w : World), hi ≤ N → M.Fed B hi → M.stk (nodeG g) B hi = (lo, x) :: M.stk (nodeG g) B lo → o = off + lo * 3 → l + lo = hi → l ≤ c →
      (∀ i, i < N → OpC Q w b (off + i * 3) (B i)) → GramA Q w ra la g →
      Calls Try.prog 50 #[.agg #[.slice ra g.nr rc, .slice la g.nb lc], .slice (some ⟨b, o, none⟩) l c] w (GivesS x.text w) := by
  induction hi using Nat.strongRecOn with
  | _ hi ih =>
    intro lo o c l x w hle hF hst ho hl hc hB hG
    obtain ⟨hlo, _, _⟩ := M.stk_cons _ B hi hF lo x _ hst
    obtain ⟨q, rfl⟩ : ∃ q, hi = q + 1 := ⟨hi - 1, by omega⟩
    have IH : Hid (∀ m, m < q + 1 → ∀ (lo o c l : Nat) (x : TX) (w : World), m ≤ N → M.Fed B m → M.stk (nodeG g) B m = (lo, x) :: M.stk (nodeG g) B lo → o = off + lo * 3 → l + lo = m → l ≤ c →
      (∀ i, i < N → OpC Q w b (off + i * 3) (B i)) → GramA Q w ra la g →
      Calls Try.prog 50 #[.agg #[.slice ra g.nr rc, .slice la g.nb lc], .slice (some ⟨b, o, none⟩) l c] w (GivesS x.text w)) := ih
    have HB : Hid (∀ i, i < N → OpC Q w b (off + i * 3) (B i)) := hB
    have HG : Hid (GramA Q w ra la g) := hG
    have HK : Hid (∀ i, i < N → M.ElemOK g.nr g.nb (B i)) := hok
    have HF : Hid (M.Fed B (q + 1)) := hF
    have HS : Hid (M.stk (nodeG g) B (q + 1) = (lo, x) :: M.stk (nodeG g) B lo) := hst
    have HV : Hid (M.Valid g) := hV
    have h1 := hV.r2
    have h2 := hV.l2
    obtain ⟨m, rfl⟩ : ∃ m, l = m + 1 := ⟨l - 1, by omega⟩
    have hm : m + lo = q := by omega
    obtain ⟨c0, ⟨sa, sc, c1, hss⟩, c2⟩ := hB q (by omega)
    have eo : off + q * 3 = o + m * 3 := by omega
    rw [eo] at c0 c1 c2
    have hbl : b < w.heap.size := lt_of_cell c0
    have hE := hok q (by omega)
    have HE : Hid (M.ElemOK g.nr g.nb (B q)) := hE
    have k0 := hE.1
    have k7 := hE.2.1
    have ha0 : 0 ≤ (B q).arg := hE.2.2.2.2.1
    have HSS : Hid (Ints Q .i64 w sa (B q).sl (B q).set) := hss
    have x2 : ((m + 1 : Nat) : Int) - 1 = (m : Int) := by omega
    have x3 : (m : Int) < ((m + 1 : Nat) : Int) := by omega
    have x4 : m + 1 ≤ 2000 := by omega
    have hll : lo < q + 1 := hlo
    clear hB hok hF hst ih hss hE hG hV
    have HO : Hid (o = off + lo * 3) := ho
    have HMM : Hid (m + lo = q) := hm
    clear ho hm hl
    by_cases e0 : (B q).kind = 0
    · have HX : Hid (x = .empty) := by show _ = _; rw [leaf_splitG _ B q lo x (by simp [M.ar, e0]) HS.out]; simp [nodeG, M.nodeT, e0]
      have f0 : ((B q).kind == 0) = true := by simp [e0]
      clear e0
      go_enter Try.func50, Try.ntmps50
      go_wp2
      go_ret
      exact ⟨by rw [HX.out]; rfl, bel2 w _ _⟩
    have n0 : ((B q).kind == 0) = false := by simp [e0]
    by_cases e1 : (B q).kind = 1
    · have HX : Hid (x = .set (B q).sl (B q).set) := by show _ = _; rw [leaf_splitG _ B q lo x (by simp [M.ar, e1]) HS.out]; simp [nodeG, M.nodeT, e1]
      have f1 : ((B q).kind == 1) = true := by simp [e1]
      have HC : Hid (M.Canon (B q).sl (B q).set) := HE.out.2.2.1 e1
      clear e1 e0
      go_enter Try.func50, Try.ntmps50
      go_wp2_with (go_at_call 88; refine (l2setText_any Q sa (B q).sl sc (B q).set _ (HSS.out.later (bel2 w _ _)) HC.out).mono ?_; rintro e W ⟨rfl, hb⟩; have HW : Hid (Below w.heap.size w W) := bel_tr (bel2 w _ _) hb; clear hb)
      go_ret
      exact ⟨by rw [HX.out]; rfl, HW.out⟩
    have n1 : ((B q).kind == 1) = false := by simp [e1]
    by_cases e2 : (B q).kind = 2
    · have HX : Hid (x = .ref (rname g (B q).arg.toNat)) := by show _ = _; rw [leaf_splitG _ B q lo x (by simp [M.ar, e2]) HS.out]; simp [nodeG, M.nodeT, e2]
      have f2 : ((B q).kind == 2) = true := by simp [e2]
      have k6 := HE.out.2.2.2.2.2
      unfold M.most at k6
      rw [if_neg (by omega), if_pos e2] at k6
      obtain ⟨j, hj⟩ : ∃ j : Nat, (B q).arg = (j : Int) := ⟨(B q).arg.toNat, by omega⟩
      have HJ : Hid ((B q).arg.toNat = j) := by show _ = _; omega
      rw [hj] at k6 c2
      have hjn : j < g.nr := by omega
      have HR := (HG.out.later (bel2 w (.cells #[.slice ra g.nr rc, .slice la g.nb lc] 36) (.cells #[.int .i64 (B q).kind, .slice sa (B q).sl sc, .int .i64 (j : Int)] 80))).rules
      rcases HR with h0 | ⟨rb, ro, rfl, hq, hR⟩
      · omega
      obtain ⟨⟨na, nc, d0, hn⟩, _⟩ := hR j hjn
      have hcv := conv_run Q na (g.rule j).nl nc (g.rule j).name _ hn
      have HN : Hid (rname g j = str (g.rule j).nl (g.rule j).name) := rfl
      generalize str (g.rule j).nl (g.rule j).name = s at hcv HN
      have hbl2 := lt_of_cell d0
      clear hR hn e0 e1 e2 hj
      go_enter Try.func50, Try.ntmps50
      go_wp2
      go_ret
      exact ⟨ret_str (by rw [HX.out, HJ.out, M.TX.text, HN.out]), bel2 w _ _⟩
    have n2 : ((B q).kind == 2) = false := by simp [e2]
    by_cases e3 : (B q).kind = 3
    · have HX : Hid (x = .thr (lname g (B q).arg.toNat)) := by show _ = _; rw [leaf_splitG _ B q lo x (by simp [M.ar, e3]) HS.out]; simp [nodeG, M.nodeT, e3]
      have f3 : ((B q).kind == 3) = true := by simp [e3]
      have k6 := HE.out.2.2.2.2.2
      unfold M.most at k6
      rw [if_pos e3] at k6
      obtain ⟨j, hj⟩ : ∃ j : Nat, (B q).arg = (j : Int) := ⟨(B q).arg.toNat, by omega⟩
      have HJ : Hid ((B q).arg.toNat = j) := by show _ = _; omega
      rw [hj] at k6 c2
      have hjn : j < g.nb := by omega
      have HR := (HG.out.later (bel2 w (.cells #[.slice ra g.nr rc, .slice la g.nb lc] 36) (.cells #[.int .i64 (B q).kind, .slice sa (B q).sl sc, .int .i64 (j : Int)] 80))).labs
      rcases HR with h0 | ⟨rb, ro, rfl, hq, hR⟩
      · omega
      obtain ⟨⟨na, nc, d0, hn⟩, _⟩ := hR j hjn
      have hcv := conv_run Q na (g.lab j).nl nc (g.lab j).name _ hn
      have HN : Hid (lname g j = str (g.lab j).nl (g.lab j).name) := rfl
      have hsz := (lname_size HV.out hjn).2
      rw [HN.out] at hsz
      generalize str (g.lab j).nl (g.lab j).name = s at hcv HN hsz
      have hbl2 := lt_of_cell d0
      have z1 : ¬ 9223372036854775807 < 1 + s.size := by omega
      clear hR hn e0 e1 e2 e3 hj
      go_enter Try.func50, Try.ntmps50
      go_wp2
      go_ret
      exact ⟨ret_str (by rw [HX.out, HJ.out, M.TX.text, HN.out]; rfl), bel2 w _ _⟩
    have n3 : ((B q).kind == 3) = false := by simp [e3]
    -- an element with operands
    have har1 : 1 ≤ M.ar (B q).kind := by
      unfold M.ar
      split
      · omega
      · split <;> omega
    have hlq : lo < q := by
      rcases M.ar_cases (B q).kind with h | h | h
      · omega
      · exact (un_splitG _ B q lo x HF.out h HS.out).choose_spec.1
      · obtain ⟨s, y, z, h3, h4, _⟩ := bin_splitG _ B q lo x HF.out h HS.out
        omega
    obtain ⟨j, rfl⟩ : ∃ j, m = j + 1 := ⟨m - 1, by have := HMM.out; omega⟩
    obtain ⟨d0, _, _⟩ := HB.out (q - 1) (by omega)
    have eo2 : off + (q - 1) * 3 = o + j * 3 := by have := HMM.out; have := HO.out; omega
    rw [eo2] at d0
    have hEy := HK.out (q - 1) (by omega)
    have y0 := hEy.1
    have y7 := hEy.2.1
    have x5 : ((j + 1 + 1 : Nat) : Int) - 2 = (j : Int) := by omega
    have x6 : (j : Int) < ((j + 1 + 1 : Nat) : Int) := by omega
    have HKY : Hid (∀ s y r, M.stk (nodeG g) B q = (s, y) :: r → y.bind = bindK (B (q - 1)).kind) := fun s y r h => top_bind g B q s y r (HF.out.less (by omega)) h
    generalize (B (q - 1)).kind = ky at *
    clear hEy har1
    have z6 := wrap_small (j + 1) (by omega)
    have hcj : j + 1 < c := by omega
    have hcj' : j + 1 ≤ c := by omega
    have hcz : ¬ c = 0 := by omega
    have bX : Below w.heap.size w ((w.alloc (.cells #[.slice ra g.nr rc, .slice la g.nb lc] 36)).alloc (.cells #[.int .i64 (B q).kind, .slice sa (B q).sl sc, .int .i64 (B q).arg] 80)) := bel2 w _ _
    have xg0 : ((w.alloc (.cells #[.slice ra g.nr rc, .slice la g.nb lc] 36)).alloc (.cells #[.int .i64 (B q).kind, .slice sa (B q).sl sc, .int .i64 (B q).arg] 80)).cell? ⟨w.heap.size, 0, none⟩ = some (.slice ra g.nr rc) := cell_on (cN w.heap.size rfl rfl) (bel1 _ _)
    have xg1 : ((w.alloc (.cells #[.slice ra g.nr rc, .slice la g.nb lc] 36)).alloc (.cells #[.int .i64 (B q).kind, .slice sa (B q).sl sc, .int .i64 (B q).arg] 80)).cell? ⟨w.heap.size, 1, none⟩ = some (.slice la g.nb lc) := cell_on (cN w.heap.size rfl rfl) (bel1 _ _)
    have xk : ((w.alloc (.cells #[.slice ra g.nr rc, .slice la g.nb lc] 36)).alloc (.cells #[.int .i64 (B q).kind, .slice sa (B q).sl sc, .int .i64 (B q).arg] 80)).cell? ⟨w.heap.size + 1, 0, none⟩ = some (.int .i64 (B q).kind) := cN (w.heap.size + 1) (by simp) rfl
    by_cases e6 : (B q).kind = 6
    · have f6 : ((B q).kind == 6) = true := by simp [e6]
      obtain ⟨z, _, hst1, hxz⟩ := un_splitG _ B q lo x HF.out (by simp [M.ar, e6]) HS.out
      have ST1 : Hid (M.stk (nodeG g) B q = (lo, z) :: M.stk (nodeG g) B lo) := hst1
      have hzs := stk_text HV.out (HF.out.less (by omega)) (fun i hi => HK.out i (by omega)) hst1 (by omega)
      have HX : Hid (x.text = grp (decide (4 ≤ ky)) z.text ++ b1 42) := by
        show _ = _
        rw [hxz, show nodeG g (B q) z default = .star z by simp [nodeG, M.nodeT, e6], M.TX.text, HKY.out lo z _ hst1, bind_lt4 ky y0 y7]
      have hgs := M.grp_size (decide (4 ≤ ky)) z.text
      have HGS : Hid (z.text.size ≤ 16000000) := by show _ ≤ _; omega
      obtain ⟨pk, hpk⟩ : ∃ p : Bool, decide (4 ≤ ky) = p := ⟨_, rfl⟩
      rw [hpk] at HX hgs
      obtain ⟨zt, hzt⟩ : ∃ zt, grp pk z.text = zt := ⟨_, rfl⟩
      have HZT : Hid (grp pk z.text = zt) := hzt
      rw [hzt] at HX hgs
      have w1 : ¬ 9223372036854775807 < zt.size + 1 := by omega
      clear hst1 hxz e0 e1 e2 e3 e6 hzt
      go_enter Try.func50, Try.ntmps50
      go_wp2_with fail
      generalize (w.alloc (.cells #[.slice ra g.nr rc, .slice la g.nb lc] 36)).alloc (.cells #[.int .i64 (B q).kind, .slice sa (B q).sl sc, .int .i64 (B q).arg] 80) = X at *
      have BX : Hid (Below w.heap.size w X) := bX
      clear bX c0 c1 c2 d0
      obtain ⟨ι, hne, F, hF, hF'⟩ := family X
      have v0 : ∀ n, (F n).cell? ⟨w.heap.size, 0, none⟩ = some (.slice ra g.nr rc) := fun n => cell_on xg0 (hF n)
      have v1 : ∀ n, (F n).cell? ⟨w.heap.size, 1, none⟩ = some (.slice la g.nb lc) := fun n => cell_on xg1 (hF n)
      have HC : Hid (∃ n, X.drew = F n) := hF' _ (Below.refl _ X).drew
      have HFA : Hid (∀ n, Below X.heap.size X (F n)) := hF
      have HFB : Hid (∀ W, Below X.heap.size X W → ∃ n, W = F n) := hF'
      clear hF hF'
      refine region_family F (by kernel_rfl) (by kernel_rfl) HC.out ?_
      repeat (go_big_quiet_step (first | (go_at_call 50; exact str_in (HFA.out _) HFB.out (IH.out q (by omega) lo _ _ _ z _ (by omega) (HF.out.less (by omega)) ST1.out HO.out HMM.out hcj' (fun i hi => (HB.out i hi).later (bel_tr BX.out (HFA.out _))) (HG.out.later (bel_tr BX.out (HFA.out _))))) | (go_at_call 89; exact str_in (HFA.out _) HFB.out (HZT.out ▸ l2group_any z.text pk _ HGS.out))))
      refine wpQuiet_nil ?_
      rintro _ ⟨nq, rfl⟩
      go_wp2
      go_ret
      exact ⟨ret_str (by rw [HX.out]; rfl), bel_tr BX.out (HFA.out nq)⟩
    have n6 : ((B q).kind == 6) = false := by simp [e6]
    by_cases e7 : (B q).kind = 7
    · have f7 : ((B q).kind == 7) = true := by simp [e7]
      obtain ⟨z, _, hst1, hxz⟩ := un_splitG _ B q lo x HF.out (by simp [M.ar, e7]) HS.out
      have ST1 : Hid (M.stk (nodeG g) B q = (lo, z) :: M.stk (nodeG g) B lo) := hst1
      have hzs := stk_text HV.out (HF.out.less (by omega)) (fun i hi => HK.out i (by omega)) hst1 (by omega)
      have HX : Hid (x.text = b1 33 ++ grp ((ky == 4) || (ky == 5)) z.text) := by
        show _ = _
        rw [hxz, show nodeG g (B q) z default = .not z by simp [nodeG, M.nodeT, e7], M.TX.text, HKY.out lo z _ hst1, bind_lt2 ky]
      have hgs := M.grp_size ((ky == 4) || (ky == 5)) z.text
      have HGS : Hid (z.text.size ≤ 16000000) := by show _ ≤ _; omega
      obtain ⟨p4, hp4⟩ : ∃ p : Bool, (ky == 4) = p := ⟨_, rfl⟩
      obtain ⟨p5, hp5⟩ : ∃ p : Bool, (ky == 5) = p := ⟨_, rfl⟩
      rw [hp4, hp5] at HX hgs
      clear hst1 hxz e0 e1 e2 e3 e6 e7
      go_enter Try.func50, Try.ntmps50
      go_wp2_with fail
      generalize (w.alloc (.cells #[.slice ra g.nr rc, .slice la g.nb lc] 36)).alloc (.cells #[.int .i64 (B q).kind, .slice sa (B q).sl sc, .int .i64 (B q).arg] 80) = X at *
      have BX : Hid (Below w.heap.size w X) := bX
      clear bX c0 c1 c2 d0
      obtain ⟨ι, hne, F, hF, hF'⟩ := family X
      have v0 : ∀ n, (F n).cell? ⟨w.heap.size, 0, none⟩ = some (.slice ra g.nr rc) := fun n => cell_on xg0 (hF n)
      have v1 : ∀ n, (F n).cell? ⟨w.heap.size, 1, none⟩ = some (.slice la g.nb lc) := fun n => cell_on xg1 (hF n)
      have HC : Hid (∃ n, X.drew = F n) := hF' _ (Below.refl _ X).drew
      have HFA : Hid (∀ n, Below X.heap.size X (F n)) := hF
      have HFB : Hid (∀ W, Below X.heap.size X W → ∃ n, W = F n) := hF'
      clear hF hF'
      cases p4 with
      | true =>
        obtain ⟨zt, hzt⟩ : ∃ zt, grp true z.text = zt := ⟨_, rfl⟩
        have HZT : Hid (grp true z.text = zt) := hzt
        rw [Bool.true_or, hzt] at HX hgs
        have w1 : ¬ 9223372036854775807 < 1 + zt.size := by omega
        clear hzt
        refine region_family F (by kernel_rfl) (by kernel_rfl) HC.out ?_
        repeat (go_big_quiet_step (first | (go_at_call 50; exact str_in (HFA.out _) HFB.out (IH.out q (by omega) lo _ _ _ z _ (by omega) (HF.out.less (by omega)) ST1.out HO.out HMM.out hcj' (fun i hi => (HB.out i hi).later (bel_tr BX.out (HFA.out _))) (HG.out.later (bel_tr BX.out (HFA.out _))))) | (go_at_call 89; exact str_in (HFA.out _) HFB.out (HZT.out ▸ l2group_any z.text true _ HGS.out))))
        refine wpQuiet_nil ?_
        rintro _ ⟨nq, rfl⟩
        go_wp2
        go_ret
        exact ⟨ret_str (by rw [HX.out]; rfl), bel_tr BX.out (HFA.out nq)⟩
      | false =>
        obtain ⟨zt, hzt⟩ : ∃ zt, grp p5 z.text = zt := ⟨_, rfl⟩
        have HZT : Hid (grp p5 z.text = zt) := hzt
        rw [Bool.false_or, hzt] at HX hgs
        have w1 : ¬ 9223372036854775807 < 1 + zt.size := by omega
        clear hzt
        refine region_family F (by kernel_rfl) (by kernel_rfl) HC.out ?_
        repeat (go_big_quiet_step (first | (go_at_call 50; exact str_in (HFA.out _) HFB.out (IH.out q (by omega) lo _ _ _ z _ (by omega) (HF.out.less (by omega)) ST1.out HO.out HMM.out hcj' (fun i hi => (HB.out i hi).later (bel_tr BX.out (HFA.out _))) (HG.out.later (bel_tr BX.out (HFA.out _))))) | (go_at_call 89; exact str_in (HFA.out _) HFB.out (HZT.out ▸ l2group_any z.text p5 _ HGS.out))))
        refine wpQuiet_nil ?_
        rintro _ ⟨nq, rfl⟩
        go_wp2
        go_ret
        exact ⟨ret_str (by rw [HX.out]; rfl), bel_tr BX.out (HFA.out nq)⟩
    have n7 : ((B q).kind == 7) = false := by simp [e7]
    by_cases e4 : (B q).kind = 4
    · have f4 : ((B q).kind == 4) = true := by simp [e4]
      have har : M.ar (B q).kind = 2 := by simp [M.ar, e4]
      obtain ⟨s, y, z, hls, hsq, st1, st2, hx, dd1, dd2⟩ := bin_splitG _ B q lo x HF.out har HS.out
      obtain ⟨p, hp⟩ : ∃ p, s = lo + (p + 1) := ⟨s - lo - 1, by omega⟩
      have HP : Hid (s = lo + (p + 1)) := hp
      have hpj : p + 1 < j + 1 := by have := HMM.out; omega
      have hpj' : ((p + 1 : Nat) : Int) < ((j + 1 : Nat) : Int) := by omega
      have hpj2 : ((p + 1 : Nat) : Int) ≤ ((j + 1 : Nat) : Int) := by omega
      obtain ⟨dk, _, _⟩ := HB.out (s - 1) (by omega)
      have eo3 : off + (s - 1) * 3 = o + p * 3 := by have := HO.out; omega
      rw [eo3] at dk
      have HKX : Hid (z.bind = bindK (B (s - 1)).kind) := top_bind g B s lo z _ (HF.out.less (by omega)) st2
      have hEx := HK.out (s - 1) (by omega)
      generalize (B (s - 1)).kind = kx at *
      clear hEx
      have x8 : ((p + 1 : Nat) : Int) - 1 = (p : Int) := by omega
      have x9 : (p : Int) < ((j + 1 + 1 : Nat) : Int) := by omega
      have d1' : Hid (M.dep (fun i => B (lo + i)) (p + 1) + 1 = M.dep (fun i => B (lo + i)) (j + 1)) := by
        show _ = _
        rw [dep_shift, dep_shift, ← hp, show lo + (j + 1) = q by have := HMM.out; omega]
        omega
      have d2' : Hid (∀ i, p + 1 < i → i ≤ j + 1 → M.dep (fun i => B (lo + i)) (j + 1) ≤ M.dep (fun i => B (lo + i)) i) := fun i h3 h4 => by
        rw [dep_shift, dep_shift, show lo + (j + 1) = q by have := HMM.out; omega]
        have := dd2 (lo + i) (by omega) (by have := HMM.out; omega)
        omega
      have ST1 : Hid (M.stk (nodeG g) B q = (s, y) :: M.stk (nodeG g) B s) := st1
      have ST2 : Hid (M.stk (nodeG g) B s = (lo, z) :: M.stk (nodeG g) B lo) := st2
      have HSQ : Hid (lo < s ∧ s < q) := ⟨hls, hsq⟩
      have HOP : Hid (∀ W, Below w.heap.size w W → ∀ i, i < j + 1 + 1 → OpC Q W b (o + i * 3) (B (lo + i))) := fun W hW i hi => by
        have := (HB.out (lo + i) (by have := HMM.out; omega)).later hW
        rw [show off + (lo + i) * 3 = o + i * 3 by have := HO.out; omega] at this
        exact this
      have hys := stk_text HV.out (HF.out.less (by omega)) (fun i hi => HK.out i (by omega)) st1 (by omega)
      have hzs := stk_text HV.out (HF.out.less (by omega)) (fun i hi => HK.out i (by omega)) st2 (by omega)
      have HGY : Hid (y.text.size ≤ 16000000) := by show _ ≤ _; omega
      have HGZ : Hid (z.text.size ≤ 16000000) := by show _ ≤ _; omega
      have hkyb := HKY.out s y _ st1
      have HX : Hid (x.text = grp (kx == 5) z.text ++ b1 32 ++ grp ((ky == 5) || (ky == 4)) y.text) := by
        show _ = _
        rw [hx, show nodeG g (B q) z y = .seq z y by simp [nodeG, M.nodeT, e4], M.TX.text, hkyb, HKX.out, bind_lt1 kx, bind_lt2 ky, Bool.or_comm]
      have hgz := M.grp_size (kx == 5) z.text
      have hgy := M.grp_size ((ky == 5) || (ky == 4)) y.text
      obtain ⟨px, hpx⟩ : ∃ p : Bool, (kx == 5) = p := ⟨_, rfl⟩
      obtain ⟨p5, hp5⟩ : ∃ p : Bool, (ky == 5) = p := ⟨_, rfl⟩
      obtain ⟨p4, hp4⟩ : ∃ p : Bool, (ky == 4) = p := ⟨_, rfl⟩
      rw [hpx, hp5, hp4] at HX
      rw [hpx] at hgz
      rw [hp5, hp4] at hgy
      obtain ⟨zt, hzt⟩ : ∃ zt, grp px z.text = zt := ⟨_, rfl⟩
      have HZT : Hid (grp px z.text = zt) := hzt
      rw [hzt] at HX hgz
      obtain ⟨yt, hyt⟩ : ∃ yt, grp (p5 || p4) y.text = yt := ⟨_, rfl⟩
      have HYT : Hid (grp (p5 || p4) y.text = yt) := hyt
      rw [hyt] at HX hgy
      have w1 : ¬ 9223372036854775807 < zt.size + 1 := by omega
      have w2 : ¬ 9223372036854775807 < zt.size + 1 + yt.size := by omega
      have z1 : ¬ c = p + 1 := by omega
      have z2 : p + 1 ≤ j + 1 := by omega
      have z4 : p + 1 ≤ c := by omega
      have z7 := wrap_small (p + 1) (by omega)
      clear st1 st2 hx dd1 dd2 hp hls hsq har hkyb e0 e1 e2 e3 e4 hzt hyt
      go_enter Try.func50, Try.ntmps50
      go_wp2_with fail
      refine (l2start_any b o (j + 1 + 1) c (fun i => B (lo + i)) _ Q (HOP.out _ (bel2 w _ _)) (by omega) (j + 1) (p + 1) (by omega) hpj d1'.out d2'.out).mono ?_
      rintro e W ⟨rfl, hw⟩
      subst W
      go_wp2_with fail
      generalize (w.alloc (.cells #[.slice ra g.nr rc, .slice la g.nb lc] 36)).alloc (.cells #[.int .i64 (B q).kind, .slice sa (B q).sl sc, .int .i64 (B q).arg] 80) = X at *
      have BX : Hid (Below w.heap.size w X) := bX
      clear bX c0 c1 c2 d0 dk
      obtain ⟨ι, hne, F, hF, hF'⟩ := family X
      have v0 : ∀ n, (F n).cell? ⟨w.heap.size, 0, none⟩ = some (.slice ra g.nr rc) := fun n => cell_on xg0 (hF n)
      have v1 : ∀ n, (F n).cell? ⟨w.heap.size, 1, none⟩ = some (.slice la g.nb lc) := fun n => cell_on xg1 (hF n)
      have HC : Hid (∃ n, X.drew = F n) := hF' _ (Below.refl _ X).drew
      have HFA : Hid (∀ n, Below X.heap.size X (F n)) := hF
      have HFB : Hid (∀ W, Below X.heap.size X W → ∃ n, W = F n) := hF'
      clear hF hF'
      refine region_family F (by kernel_rfl) (by kernel_rfl) HC.out ?_
      repeat (go_big_quiet_step (first | (go_at_call 50; exact str_in (HFA.out _) HFB.out (IH.out s (by have := HSQ.out; omega) lo _ _ _ z _ (by have := HSQ.out; omega) (HF.out.less (by have := HSQ.out; omega)) ST2.out HO.out (by have := HP.out; omega) z4 (fun i hi => (HB.out i hi).later (bel_tr BX.out (HFA.out _))) (HG.out.later (bel_tr BX.out (HFA.out _)))))))
      refine wpQuiet_nil ?_
      rintro _ ⟨nq, rfl⟩
      obtain ⟨W2, hW2⟩ : ∃ W2, F nq = W2 := ⟨_, rfl⟩
      have HB2 : Hid (Below X.heap.size X W2) := hW2 ▸ HFA.out nq
      rw [hW2]
      clear hW2 v0 v1 HC HFA HFB nq
      have yg0 := cell_on xg0 HB2.out
      have yg1 := cell_on xg1 HB2.out
      have yk := cell_on xk HB2.out
      clear xg0 xg1 xk hne
      clear F ι
      go_wp2_with fail
      obtain ⟨ι, hne, F, hF, hF'⟩ := family W2
      have v0 : ∀ n, (F n).cell? ⟨w.heap.size, 0, none⟩ = some (.slice ra g.nr rc) := fun n => cell_on yg0 (hF n)
      have v1 : ∀ n, (F n).cell? ⟨w.heap.size, 1, none⟩ = some (.slice la g.nb lc) := fun n => cell_on yg1 (hF n)
      have HC : Hid (∃ n, W2.drew = F n) := hF' _ (Below.refl _ W2).drew
      have HFA : Hid (∀ n, Below W2.heap.size W2 (F n)) := hF
      have HFB : Hid (∀ W, Below W2.heap.size W2 W → ∃ n, W = F n) := hF'
      have HFW : Hid (∀ n, Below w.heap.size w (F n)) := fun n => bel_tr (bel_tr BX.out HB2.out) (hF n)
      clear hF hF'
      refine region_family F (by kernel_rfl) (by kernel_rfl) HC.out ?_
      repeat (go_big_quiet_step (first | (go_at_call 50; exact str_in (HFA.out _) HFB.out (IH.out q (by omega) s _ _ _ y _ (by omega) (HF.out.less (by omega)) ST1.out (by have := HO.out; have := HP.out; omega) (by have := HMM.out; have := HP.out; omega) (by omega) (fun i hi => (HB.out i hi).later (HFW.out _)) (HG.out.later (HFW.out _))))))
      refine wpQuiet_nil ?_
      rintro _ ⟨nq, rfl⟩
      obtain ⟨W3, hW3⟩ : ∃ W3, F nq = W3 := ⟨_, rfl⟩
      have HB3 : Hid (Below W2.heap.size W2 W3) := hW3 ▸ HFA.out nq
      rw [hW3]
      have uk := cell_on yk HB3.out
      clear hW3 v0 v1 HC HFA HFB HFW nq yg0 yg1 yk
      have HB13 : Hid (Below w.heap.size w W3) := bel_tr (bel_tr BX.out HB2.out) HB3.out
      cases p5 with
      | true =>
        go_wp2_with (first | (go_at_call 89; refine (l2group_any z.text px _ HGZ.out).mono ?_; rintro e W4 ⟨rfl, hb4⟩; have HB4 : Hid (Below w.heap.size w W4) := bel_tr HB13.out hb4; clear hb4; rw [HZT.out]) | (go_at_call 89; refine (l2group_any y.text true _ HGY.out).mono ?_; rintro e W5 ⟨rfl, hb5⟩; have HB5 : Hid (Below w.heap.size w W5) := bel_tr HB4.out hb5; clear hb5; rw [show grp true y.text = yt from HYT.out]))
        go_ret
        exact ⟨ret_str (by rw [HX.out]; rfl), HB5.out⟩
      | false =>
        go_wp2_with (first | (go_at_call 89; refine (l2group_any z.text px _ HGZ.out).mono ?_; rintro e W4 ⟨rfl, hb4⟩; have HB4 : Hid (Below w.heap.size w W4) := bel_tr HB13.out hb4; clear hb4; rw [HZT.out]) | (go_at_call 89; refine (l2group_any y.text p4 _ HGY.out).mono ?_; rintro e W5 ⟨rfl, hb5⟩; have HB5 : Hid (Below w.heap.size w W5) := bel_tr HB4.out hb5; clear hb5; rw [show grp p4 y.text = yt from HYT.out]))
        go_ret
        exact ⟨ret_str (by rw [HX.out]; rfl), HB5.out⟩
    · have e5 : (B q).kind = 5 := by omega
      have f4 : ((B q).kind == 4) = false := by simp [e4]
      have har : M.ar (B q).kind = 2 := by simp [M.ar, e5]
      obtain ⟨s, y, z, hls, hsq, st1, st2, hx, dd1, dd2⟩ := bin_splitG _ B q lo x HF.out har HS.out
      obtain ⟨p, hp⟩ : ∃ p, s = lo + (p + 1) := ⟨s - lo - 1, by omega⟩
      have HP : Hid (s = lo + (p + 1)) := hp
      have hpj : p + 1 < j + 1 := by have := HMM.out; omega
      have hpj' : ((p + 1 : Nat) : Int) < ((j + 1 : Nat) : Int) := by omega
      have hpj2 : ((p + 1 : Nat) : Int) ≤ ((j + 1 : Nat) : Int) := by omega
      obtain ⟨dk, _, _⟩ := HB.out (s - 1) (by omega)
      have eo3 : off + (s - 1) * 3 = o + p * 3 := by have := HO.out; omega
      rw [eo3] at dk
      have HKX : Hid (z.bind = bindK (B (s - 1)).kind) := top_bind g B s lo z _ (HF.out.less (by omega)) st2
      have hEx := HK.out (s - 1) (by omega)
      generalize (B (s - 1)).kind = kx at *
      clear hEx
      have x8 : ((p + 1 : Nat) : Int) - 1 = (p : Int) := by omega
      have x9 : (p : Int) < ((j + 1 + 1 : Nat) : Int) := by omega
      have d1' : Hid (M.dep (fun i => B (lo + i)) (p + 1) + 1 = M.dep (fun i => B (lo + i)) (j + 1)) := by
        show _ = _
        rw [dep_shift, dep_shift, ← hp, show lo + (j + 1) = q by have := HMM.out; omega]
        omega
      have d2' : Hid (∀ i, p + 1 < i → i ≤ j + 1 → M.dep (fun i => B (lo + i)) (j + 1) ≤ M.dep (fun i => B (lo + i)) i) := fun i h3 h4 => by
        rw [dep_shift, dep_shift, show lo + (j + 1) = q by have := HMM.out; omega]
        have := dd2 (lo + i) (by omega) (by have := HMM.out; omega)
        omega
      have ST1 : Hid (M.stk (nodeG g) B q = (s, y) :: M.stk (nodeG g) B s) := st1
      have ST2 : Hid (M.stk (nodeG g) B s = (lo, z) :: M.stk (nodeG g) B lo) := st2
      have HSQ : Hid (lo < s ∧ s < q) := ⟨hls, hsq⟩
      have HOP : Hid (∀ W, Below w.heap.size w W → ∀ i, i < j + 1 + 1 → OpC Q W b (o + i * 3) (B (lo + i))) := fun W hW i hi => by
        have := (HB.out (lo + i) (by have := HMM.out; omega)).later hW
        rw [show off + (lo + i) * 3 = o + i * 3 by have := HO.out; omega] at this
        exact this
      have hys := stk_text HV.out (HF.out.less (by omega)) (fun i hi => HK.out i (by omega)) st1 (by omega)
      have hzs := stk_text HV.out (HF.out.less (by omega)) (fun i hi => HK.out i (by omega)) st2 (by omega)
      have HGY : Hid (y.text.size ≤ 16000000) := by show _ ≤ _; omega
      have HGZ : Hid (z.text.size ≤ 16000000) := by show _ ≤ _; omega
      have hkyb := HKY.out s y _ st1
      have HX : Hid (x.text = z.text ++ ⟨#[32, 47, 32]⟩ ++ grp (ky == 5) y.text) := by
        show _ = _
        rw [hx, show nodeG g (B q) z y = .alt z y by simp [nodeG, M.nodeT, e5], M.TX.text, hkyb, bind_lt1 ky]
      have hgy := M.grp_size (ky == 5) y.text
      obtain ⟨p5, hp5⟩ : ∃ p : Bool, (ky == 5) = p := ⟨_, rfl⟩
      rw [hp5] at HX hgy
      obtain ⟨yt, hyt⟩ : ∃ yt, grp p5 y.text = yt := ⟨_, rfl⟩
      have HYT : Hid (grp p5 y.text = yt) := hyt
      rw [hyt] at HX hgy
      have w1 : ¬ 9223372036854775807 < z.text.size + 3 := by omega
      have w2 : ¬ 9223372036854775807 < z.text.size + 3 + yt.size := by omega
      have z1 : ¬ c = p + 1 := by omega
      have z2 : p + 1 ≤ j + 1 := by omega
      have z4 : p + 1 ≤ c := by omega
      have z7 := wrap_small (p + 1) (by omega)
      clear st1 st2 hx dd1 dd2 hp hls hsq har hkyb e0 e1 e2 e3 e4 e5 hyt
      go_enter Try.func50, Try.ntmps50
      go_wp2_with fail
      refine (l2start_any b o (j + 1 + 1) c (fun i => B (lo + i)) _ Q (HOP.out _ (bel2 w _ _)) (by omega) (j + 1) (p + 1) (by omega) hpj d1'.out d2'.out).mono ?_
      rintro e W ⟨rfl, hw⟩
      subst W
      go_wp2_with fail
      generalize (w.alloc (.cells #[.slice ra g.nr rc, .slice la g.nb lc] 36)).alloc (.cells #[.int .i64 (B q).kind, .slice sa (B q).sl sc, .int .i64 (B q).arg] 80) = X at *
      have BX : Hid (Below w.heap.size w X) := bX
      clear bX c0 c1 c2 d0 dk
      obtain ⟨ι, hne, F, hF, hF'⟩ := family X
      have v0 : ∀ n, (F n).cell? ⟨w.heap.size, 0, none⟩ = some (.slice ra g.nr rc) := fun n => cell_on xg0 (hF n)
      have v1 : ∀ n, (F n).cell? ⟨w.heap.size, 1, none⟩ = some (.slice la g.nb lc) := fun n => cell_on xg1 (hF n)
      have HC : Hid (∃ n, X.drew = F n) := hF' _ (Below.refl _ X).drew
      have HFA : Hid (∀ n, Below X.heap.size X (F n)) := hF
      have HFB : Hid (∀ W, Below X.heap.size X W → ∃ n, W = F n) := hF'
      clear hF hF'
      refine region_family F (by kernel_rfl) (by kernel_rfl) HC.out ?_
      repeat (go_big_quiet_step (first | (go_at_call 50; exact str_in (HFA.out _) HFB.out (IH.out s (by have := HSQ.out; omega) lo _ _ _ z _ (by have := HSQ.out; omega) (HF.out.less (by have := HSQ.out; omega)) ST2.out HO.out (by have := HP.out; omega) z4 (fun i hi => (HB.out i hi).later (bel_tr BX.out (HFA.out _))) (HG.out.later (bel_tr BX.out (HFA.out _)))))))
      refine wpQuiet_nil ?_
      rintro _ ⟨nq, rfl⟩
      obtain ⟨W2, hW2⟩ : ∃ W2, F nq = W2 := ⟨_, rfl⟩
      have HB2 : Hid (Below X.heap.size X W2) := hW2 ▸ HFA.out nq
      rw [hW2]
      clear hW2 v0 v1 HC HFA HFB nq
      have yg0 := cell_on xg0 HB2.out
      have yg1 := cell_on xg1 HB2.out
      have yk := cell_on xk HB2.out
      clear xg0 xg1 xk hne
      clear F ι
      go_wp2_with fail
      obtain ⟨ι, hne, F, hF, hF'⟩ := family W2
      have v0 : ∀ n, (F n).cell? ⟨w.heap.size, 0, none⟩ = some (.slice ra g.nr rc) := fun n => cell_on yg0 (hF n)
      have v1 : ∀ n, (F n).cell? ⟨w.heap.size, 1, none⟩ = some (.slice la g.nb lc) := fun n => cell_on yg1 (hF n)
      have HC : Hid (∃ n, W2.drew = F n) := hF' _ (Below.refl _ W2).drew
      have HFA : Hid (∀ n, Below W2.heap.size W2 (F n)) := hF
      have HFB : Hid (∀ W, Below W2.heap.size W2 W → ∃ n, W = F n) := hF'
      have HFW : Hid (∀ n, Below w.heap.size w (F n)) := fun n => bel_tr (bel_tr BX.out HB2.out) (hF n)
      clear hF hF'
      refine region_family F (by kernel_rfl) (by kernel_rfl) HC.out ?_
      repeat (go_big_quiet_step (first | (go_at_call 50; exact str_in (HFA.out _) HFB.out (IH.out q (by omega) s _ _ _ y _ (by omega) (HF.out.less (by omega)) ST1.out (by have := HO.out; have := HP.out; omega) (by have := HMM.out; have := HP.out; omega) (by omega) (fun i hi => (HB.out i hi).later (HFW.out _)) (HG.out.later (HFW.out _))))))
      refine wpQuiet_nil ?_
      rintro _ ⟨nq, rfl⟩
      obtain ⟨W3, hW3⟩ : ∃ W3, F nq = W3 := ⟨_, rfl⟩
      have HB3 : Hid (Below W2.heap.size W2 W3) := hW3 ▸ HFA.out nq
      rw [hW3]
      have uk := cell_on yk HB3.out
      clear hW3 v0 v1 HC HFA HFB HFW nq yg0 yg1 yk
      have HB13 : Hid (Below w.heap.size w W3) := bel_tr (bel_tr BX.out HB2.out) HB3.out
      go_wp2_with (go_at_call 89; refine (l2group_any y.text p5 _ HGY.out).mono ?_; rintro e W5 ⟨rfl, hb5⟩; have HB5 : Hid (Below w.heap.size w W5) := bel_tr HB13.out hb5; clear hb5; rw [HYT.out])
      go_ret
      exact ⟨ret_str (by rw [HX.out]), HB5.out⟩

/-- The text of a body. -/
theorem l2text_body (Q : Nat → Prop) (ra la a : Option Addr) (rc lc n c : Nat) (g : Gr) (hV : M.Valid g) (B : Nat → OpD) (w : World) (hn : n ≤ 2000) (hc : n ≤ c) (hB : OpsA Q w a n B) (hok : M.BodyOK g.nr g.nb n B) (hG : GramA Q w ra la g) :
    Calls Try.prog 50 #[.agg #[.slice ra g.nr rc, .slice la g.nb lc], .slice a n c] w (GivesS (treeB g n B).text w) := by
  have h0 : ¬ n = 0 := fun q => by
    have := hok.2.2
    rw [q, M.dep] at this
    omega
  rcases hB with q | ⟨b, off, rfl, hq, hB⟩
  · exact absurd q h0
  exact l2text_any Q ra la rc lc g hV b off n B hn hok.1 n 0 off c n _ w (Nat.le_refl _) hok.2.1 (stk_whole _ B n hok.2) (by omega) (by omega) hc hB hG

end Go.Proofs.Ytjpcojabdjldbaa
