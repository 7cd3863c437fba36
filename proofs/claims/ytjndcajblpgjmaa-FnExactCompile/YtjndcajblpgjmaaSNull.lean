/-
  Walks: the specification's nullable expressions.
-/
import Derived.Test.YtjndcajblpgjmaaCaps
import Derived.Test.YtjndcajblpgjmaaFold
import Derived.Deep.RegionWith
namespace Go.Proofs.Ytjndcajblpgjmaa
open Go.RowKit
open M (OpD NodeD Gr)
set_option linter.unusedVariables false
set_option linter.unusedSimpArgs false

theorem tg_lt' {nr nb : Nat} {o : OpD} (h : M.ElemOK nr nb o) (hn : M.Names o) : M.tg nr o < nr + nb := by
  obtain ⟨_, _, _, _, h5, h6⟩ := h
  unfold M.tg
  unfold M.most at h6
  rcases hn with e | e
  · rw [if_neg (by omega)]; rw [if_neg (by omega), if_pos e] at h6; omega
  · rw [if_pos e]; rw [if_pos e] at h6; omega

set_option maxHeartbeats 1000000 in
theorem l3target_any (ra la sa : Option Addr) (nr rc nb lc sc : Nat) (o : OpD) (w : World) (hn : M.Names o) (h0 : 0 ≤ o.arg) (h1 : o.arg ≤ 1048576) (h2 : nr ≤ 1048576) :
    Calls Try.prog 136 #[.agg #[.slice ra nr rc, .slice la nb lc], .agg #[.int .i64 o.kind, .slice sa o.sl sc, .int .i64 o.arg]] w fun e w' => e = .returned (.int .i64 (M.tg nr o : Nat)) ∧ Below w.heap.size w w' := by
  by_cases e3 : o.kind = 2
  · have f3 : (o.kind == 2) = true := by simp [e3]
    have E3 : Hid (¬ o.kind = 3) := by show ¬ _; omega
    clear e3 hn
    go_enter Try.func136, Try.ntmps136
    go_wp2
    go_ret
    exact ⟨ret_int (by unfold M.tg; rw [if_neg E3.out]; omega), bel2 w _ _⟩
  · have f3 : (o.kind == 2) = false := by simp [e3]
    have E3 : Hid (o.kind = 3) := by rcases hn with q | q; exact absurd q e3; exact q
    clear e3 hn
    go_enter Try.func136, Try.ntmps136
    go_wp2
    go_ret
    exact ⟨ret_int (by unfold M.tg; rw [if_pos E3.out]; omega), bel2 w _ _⟩

theorem dep_back (T : Nat → OpD) (i j : Nat) (h : i ≤ j) : M.dep T i ≤ M.dep T j + (j - i : Nat) := by
  induction j with
  | zero => have : i = 0 := by omega
            subst this; simp
  | succ j ih =>
    by_cases e : i = j + 1
    · subst e; simp
    · have := ih (by omega)
      have hb := M.ar_bd (T j).kind
      rw [M.dep]
      omega

def startI (w : World) (T : Nat → OpD) (s e : Nat) (d i : Value) (wr : World) : Prop :=
  ∃ k : Nat, s ≤ k ∧ k ≤ e ∧ d = .int .i64 (1 - M.dep T e + M.dep T k) ∧ i = .int .i64 (k : Int) ∧ wr = w

set_option maxHeartbeats 1000000 in
theorem l2start_any (b o n c : Nat) (T : Nat → OpD) (w : World) (Q : Nat → Prop) (hB : ∀ i, i < n → OpC Q w b (o + i * 3) (T i)) (hn : n ≤ 1048576) (e s : Nat) (he : e ≤ n) (hs : s < e)
    (h1 : M.dep T s + 1 = M.dep T e) (h2 : ∀ j, s < j → j ≤ e → M.dep T e ≤ M.dep T j) :
    Calls Try.prog 124 #[.slice (some ⟨b, o, none⟩) n c, .int .i64 (e : Int)] w fun en w' => en = .returned (.int .i64 (s : Int)) ∧ w = w' := by
  have HB : Hid (∀ i, i < n → OpC Q w b (o + i * 3) (T i)) := hB
  have H1 : Hid (M.dep T s + 1 = M.dep T e) := h1
  have H2 : Hid (∀ j, s < j → j ≤ e → M.dep T e ≤ M.dep T j) := h2
  clear hB h1 h2
  go_enter Try.func124, Try.ntmps124
  go_wp2
  go_loopw [5, 6] (fun d i wr => startI w T s e d i wr) (fun d i _ => (intOf i).toNat)
  case atStart => exact ⟨e, by omega, Nat.le_refl _, val_int (by omega), rfl, rfl⟩
  case round =>
    obtain ⟨k, hk, hke, rfl, rfl, rfl⟩ := hrel
    by_cases hlt : s < k
    · have hd := H2.out k hlt hke
      have hd2 := dep_back T k e hke
      obtain ⟨q, rfl⟩ : ∃ q, k = q + 1 := ⟨k - 1, by omega⟩
      obtain ⟨c0, ⟨sa, sc, c1, hss⟩, c2⟩ := HB.out q (by omega)
      have har := M.ar_bd (T q).kind
      have HST : Hid (M.dep T (q + 1) = M.dep T q + (1 - M.ar (T q).kind)) := rfl
      clear hss
      have x1 : (0 : Int) < ((q + 1 : Nat) : Int) := by omega
      have x2 : (0 : Int) < 1 - M.dep T e + M.dep T (q + 1) := by omega
      have x3 : ((q + 1 : Nat) : Int) - 1 = (q : Int) := by omega
      have x4 : (q : Int) < n := by omega
      go_wp2_with (go_at_call 165; refine (l2arity_any _ _).mono ?_; rintro e W ⟨rfl, hw⟩; subst W)
      go_roundw
      case rel => exact ⟨q, by omega, by omega, val_int (by have := HST.out; omega), by first | rfl | go_num, by trivial⟩
      case measure => simp [intOf] <;> omega
    · obtain rfl : k = s := by omega
      have x2 : 1 - M.dep T e + M.dep T k = 0 := by have := H1.out; omega
      rw [x2]
      go_wp2
      all_goals go_ret
      all_goals exact ⟨rfl, rfl⟩

/-- The marks, in memory. -/
def BoolsA (w : World) (b o n : Nat) (mk : Nat → Bool) : Prop := ∀ i, i < n → w.cell? ⟨b, o + i, none⟩ = some (.bool (mk i))
theorem BoolsA.later {w w' : World} {b o n : Nat} {mk : Nat → Bool} (h : BoolsA w b o n mk) (k : Below w.heap.size w w') : BoolsA w' b o n mk := fun i hi => cell_on (h i hi) k

theorem dep_shift (B : Nat → OpD) (lo j : Nat) : M.dep (fun i => B (lo + i)) j = M.dep B (lo + j) - M.dep B lo := by
  induction j with
  | zero => simp [M.dep]
  | succ j ih => rw [M.dep, ih, show lo + (j + 1) = lo + j + 1 by omega, M.dep]; omega

/-- Where the second operand of the element at hi - 1 begins. -/
theorem bin_split (f : OpD → Bool → Bool → Bool) (B : Nat → OpD) (q lo : Nat) (x : Bool) (hF : M.Fed B (q + 1)) (h2 : M.ar (B q).kind = 2) (e : M.stk f B (q + 1) = (lo, x) :: M.stk f B lo) :
    ∃ s y z, lo < s ∧ s < q ∧ M.stk f B q = (s, y) :: M.stk f B s ∧ M.stk f B s = (lo, z) :: M.stk f B lo ∧ x = f (B q) z y ∧ M.dep B s + 1 = M.dep B q ∧ ∀ j, s < j → j ≤ q → M.dep B q ≤ M.dep B j := by
  have hq : M.Fed B q := hF.less (by omega)
  have hl := M.stk_len f B q hq
  have hi := hF q (by omega)
  rw [M.stk] at e
  match hs : M.stk f B q with
  | [] => rw [hs] at hl; simp at hl; omega
  | [(s, y)] => rw [hs] at hl; simp at hl; omega
  | (s, y) :: (s1, z) :: r =>
    rw [hs] at e hl
    simp only [M.stp, h2, if_true, List.cons.injEq, Prod.mk.injEq] at e
    obtain ⟨⟨rfl, rfl⟩, er⟩ := e
    obtain ⟨a1, a2, a3⟩ := M.stk_cons f B q hq s y _ hs
    obtain ⟨b1, b2, b3⟩ := M.stk_cons f B s (hq.less (by omega)) s1 z r a2.symm
    have l2 := M.stk_len f B s (hq.less (by omega))
    rw [← a2] at l2
    simp at hl l2
    exact ⟨s, y, z, b1, a1, by rw [← a2], by rw [← a2, b2], rfl, by omega, a3⟩

theorem un_val (f : OpD → Bool → Bool → Bool) (B : Nat → OpD) (q lo : Nat) (x : Bool) (h : ∀ u v, f (B q) u v = f (B q) false false) (hF : M.Fed B (q + 1)) (e : M.stk f B (q + 1) = (lo, x) :: M.stk f B lo) : x = f (B q) false false := by
  have hl := M.stk_len f B q (hF.less (by omega))
  have hi := hF q (by omega)
  rw [M.stk] at e
  rcases M.ar_cases (B q).kind with h0 | h0 | h0
  · simp only [M.stp, h0] at e
    simp at e
    rw [← e.1.2, h]
  · match hs : M.stk f B q with
    | [] => rw [hs] at hl; simp at hl; omega
    | (s, y) :: r =>
      rw [hs] at e
      simp [M.stp, h0] at e
      rw [← e.1.2, h]
  · match hs : M.stk f B q with
    | [] => rw [hs] at hl; simp at hl; omega
    | [(s, y)] => rw [hs] at hl; simp at hl; omega
    | (s, y) :: (s1, z) :: r =>
      rw [hs] at e
      simp [M.stp, h0] at e
      rw [← e.1.2, h]

theorem wrap_small (m : Nat) (h : m ≤ 1048576) : IntKind.i64.wrap (m : Int) = (m : Int) := by
  simp [IntKind.wrap, IntKind.bits, IntKind.signed]
  omega

def Gives1 (x : Bool) (w : World) (e : Ending) (w' : World) : Prop := e = .returned (.bool x) ∧ Below w.heap.size w w'

set_option maxRecDepth 100000 in
set_option maxHeartbeats 4000000 in
theorem l3null_any (Q : Nat → Prop) (ra la : Option Addr) (nr rc nb lc : Nat) (b off N : Nat) (B : Nat → OpD) (mb mo mc : Nat) (mk : Nat → Bool) (hN : N ≤ 1048576) (h1 : nr ≤ 100) (h2 : nb ≤ 100)
    (hok : ∀ i, i < N → M.ElemOK nr nb (B i)) (hi : Nat) : ∀ (lo o c l : Nat) (x : Bool) (w : World), hi ≤ N → M.Fed B hi → M.stk (M.fN nr mk) B hi = (lo, x) :: M.stk (M.fN nr mk) B lo → o = off + lo * 3 → l + lo = hi → l ≤ c →
      (∀ i, i < N → OpC Q w b (off + i * 3) (B i)) → BoolsA w mb mo (nr + nb) mk →
      Calls Try.prog 132 #[.agg #[.slice ra nr rc, .slice la nb lc], .slice (some ⟨b, o, none⟩) l c, .slice (some ⟨mb, mo, none⟩) (nr + nb) mc] w (Gives1 x w) := by
  induction hi using Nat.strongRecOn with
  | _ hi ih =>
    intro lo o c l x w hle hF hst ho hl hc hB hM
    obtain ⟨hlo, _, _⟩ := M.stk_cons _ B hi hF lo x _ hst
    obtain ⟨q, rfl⟩ : ∃ q, hi = q + 1 := ⟨hi - 1, by omega⟩
    have IH : Hid (∀ m, m < q + 1 → ∀ (lo o c l : Nat) (x : Bool) (w : World), m ≤ N → M.Fed B m → M.stk (M.fN nr mk) B m = (lo, x) :: M.stk (M.fN nr mk) B lo → o = off + lo * 3 → l + lo = m → l ≤ c →
      (∀ i, i < N → OpC Q w b (off + i * 3) (B i)) → BoolsA w mb mo (nr + nb) mk →
      Calls Try.prog 132 #[.agg #[.slice ra nr rc, .slice la nb lc], .slice (some ⟨b, o, none⟩) l c, .slice (some ⟨mb, mo, none⟩) (nr + nb) mc] w (Gives1 x w)) := ih
    have HB : Hid (∀ i, i < N → OpC Q w b (off + i * 3) (B i)) := hB
    have HM : Hid (BoolsA w mb mo (nr + nb) mk) := hM
    have HK : Hid (∀ i, i < N → M.ElemOK nr nb (B i)) := hok
    have HF : Hid (M.Fed B (q + 1)) := hF
    have HS : Hid (M.stk (M.fN nr mk) B (q + 1) = (lo, x) :: M.stk (M.fN nr mk) B lo) := hst
    obtain ⟨m, rfl⟩ : ∃ m, l = m + 1 := ⟨l - 1, by omega⟩
    have hm : m + lo = q := by omega
    obtain ⟨c0, ⟨sa, sc, c1, hss⟩, c2⟩ := hB q (by omega)
    have eo : off + q * 3 = o + m * 3 := by omega
    rw [eo] at c0 c1 c2
    have hbl : b < w.heap.size := lt_of_cell c0
    have hE := hok q (by omega)
    have k0 := hE.1
    have k7 := hE.2.1
    have ha0 : 0 ≤ (B q).arg := hE.2.2.2.2.1
    have ha1 : (B q).arg ≤ 1048576 := by have := hE.2.2.2.2.2; unfold M.most at this; split at this <;> (try split at this) <;> omega
    have x1 : (((m + 1 : Nat) : Int) == 0) = false := by simp; omega
    have x2 : ((m + 1 : Nat) : Int) - 1 = (m : Int) := by omega
    have x3 : (m : Int) < ((m + 1 : Nat) : Int) := by omega
    have x4 : m + 1 ≤ 1048576 := by omega
    clear hB hM hok hF hst ih hss hE
    have HO : Hid (o = off + lo * 3) := ho
    have HMM : Hid (m + lo = q) := hm
    clear ho hm hl
    by_cases e1 : (B q).kind = 1
    · have f1 : ((B q).kind == 1) = true := by simp [e1]
      have E1 : Hid ((B q).kind = 1) := e1
      clear e1
      go_enter Try.func132, Try.ntmps132
      go_wp2
      go_ret
      refine ⟨ret_bool ?_, bel2 w _ _⟩
      rw [un_val _ B q lo x (fun u v => by simp [M.fN, E1.out]) HF.out HS.out]
      simp [M.fN, E1.out]
    have g1 : ((B q).kind == 1) = false := by simp [e1]
    have E1 : Hid (¬ (B q).kind = 1) := e1
    clear e1
    by_cases hN2 : M.Names (B q)
    · have HN2 : Hid (M.Names (B q)) := hN2
      have ht := tg_lt' (HK.out q (by omega)) hN2
      have hcell := HM.out (M.tg nr (B q)) (by omega)
      have hml : mb < w.heap.size := lt_of_cell hcell
      have ht2 : ((M.tg nr (B q) : Nat) : Int) < ((nr + nb : Nat) : Int) := by omega
      have hx : Hid (x = mk (M.tg nr (B q))) := by
        show _ = _
        rw [un_val _ B q lo x (fun u v => by simp [M.fN, HN2.out]) HF.out HS.out]
        simp [M.fN, HN2.out, E1.out]
      by_cases e2 : (B q).kind = 2
      · have f2 : ((B q).kind == 2) = true := by simp [e2]
        clear e2 hN2
        go_enter Try.func132, Try.ntmps132
        go_wp2_with (go_at_call 136; refine (l3target_any ra la sa nr rc nb lc sc (B q) _ HN2.out ha0 ha1 (by omega)).mono ?_; rintro e W ⟨rfl, hb⟩; have hz := cell_on (cellOn _ (cellOn _ hcell)) hb; have HW : Hid _ := hb; clear hb)
        go_ret
        exact ⟨ret_bool hx.out.symm, bel_tr (bel2 w _ _) HW.out⟩
      · have f2 : ((B q).kind == 2) = false := by simp [e2]
        have f3 : ((B q).kind == 3) = true := by rcases hN2 with k | k; exact absurd k e2; simp [k]
        clear e2 hN2
        go_enter Try.func132, Try.ntmps132
        go_wp2_with (go_at_call 136; refine (l3target_any ra la sa nr rc nb lc sc (B q) _ HN2.out ha0 ha1 (by omega)).mono ?_; rintro e W ⟨rfl, hb⟩; have hz := cell_on (cellOn _ (cellOn _ hcell)) hb; have HW : Hid _ := hb; clear hb)
        go_ret
        exact ⟨ret_bool hx.out.symm, bel_tr (bel2 w _ _) HW.out⟩
    have g2 : ((B q).kind == 2) = false := by simp; exact fun k => hN2 (.inl k)
    have g3 : ((B q).kind == 3) = false := by simp; exact fun k => hN2 (.inr k)
    have HN2 : Hid (¬ M.Names (B q)) := hN2
    by_cases e45 : (B q).kind = 4 ∨ (B q).kind = 5
    · have har : M.ar (B q).kind = 2 := by unfold M.ar; rw [if_pos e45]
      obtain ⟨s, y, z, hls, hsq, st1, st2, hx, d1, d2⟩ := bin_split _ B q lo x HF.out har HS.out
      obtain ⟨p, hp⟩ : ∃ p, s = lo + p := ⟨s - lo, by omega⟩
      have HP : Hid (s = lo + p) := hp
      have hpm : p < m := by have := HMM.out; omega
      have hpm' : (p : Int) < (m : Int) := by omega
      have hcm : m < c := by have := HMM.out; omega
      have d1' : Hid (M.dep (fun i => B (lo + i)) p + 1 = M.dep (fun i => B (lo + i)) m) := by
        show _ = _
        rw [dep_shift, dep_shift, ← hp, show lo + m = q by have := HMM.out; omega]
        omega
      have d2' : Hid (∀ j, p < j → j ≤ m → M.dep (fun i => B (lo + i)) m ≤ M.dep (fun i => B (lo + i)) j) := fun j h3 h4 => by
        rw [dep_shift, dep_shift, show lo + m = q by have := HMM.out; omega]
        have := d2 (lo + j) (by omega) (by have := HMM.out; omega)
        omega
      have ST1 : Hid (M.stk (M.fN nr mk) B q = (s, y) :: M.stk (M.fN nr mk) B s) := st1
      have ST2 : Hid (M.stk (M.fN nr mk) B s = (lo, z) :: M.stk (M.fN nr mk) B lo) := st2
      have HX : Hid (x = M.fN nr mk (B q) z y) := hx
      have HSQ : Hid (lo < s ∧ s < q) := ⟨hls, hsq⟩
      have HOP : Hid (∀ W, Below w.heap.size w W → ∀ i, i < m + 1 → OpC Q W b (o + i * 3) (B (lo + i))) := fun W hW i hi => by
        have := (HB.out (lo + i) (by have := HMM.out; omega)).later hW
        rw [show off + (lo + i) * 3 = o + i * 3 by have := HO.out; omega] at this
        exact this
      clear st1 st2 hx d1 d2 hp hls hsq har
      by_cases e4 : (B q).kind = 4
      · have f4 : ((B q).kind == 4) = true := by simp [e4]
        have E4 : Hid ((B q).kind = 4) := e4
        clear e4 e45 hN2
        go_enter Try.func132, Try.ntmps132
        go_wp2_with fail
        refine (l2start_any b o (m + 1) c (fun i => B (lo + i)) _ Q (HOP.out _ (bel2 w _ _)) x4 m p (by omega) hpm d1'.out d2'.out).mono ?_
        rintro e W ⟨rfl, hw⟩
        subst W
        have bX : Below w.heap.size w ((w.alloc (.cells #[.slice ra nr rc, .slice la nb lc] 36)).alloc (.cells #[.int .i64 (B q).kind, .slice sa (B q).sl sc, .int .i64 (B q).arg] 95)) := bel2 w _ _
        have xg0 : ((w.alloc (.cells #[.slice ra nr rc, .slice la nb lc] 36)).alloc (.cells #[.int .i64 (B q).kind, .slice sa (B q).sl sc, .int .i64 (B q).arg] 95)).cell? ⟨w.heap.size, 0, none⟩ = some (.slice ra nr rc) := cell_on (cN w.heap.size rfl rfl) (bel1 _ _)
        have xg1 : ((w.alloc (.cells #[.slice ra nr rc, .slice la nb lc] 36)).alloc (.cells #[.int .i64 (B q).kind, .slice sa (B q).sl sc, .int .i64 (B q).arg] 95)).cell? ⟨w.heap.size, 1, none⟩ = some (.slice la nb lc) := cell_on (cN w.heap.size rfl rfl) (bel1 _ _)
        have xk : ((w.alloc (.cells #[.slice ra nr rc, .slice la nb lc] 36)).alloc (.cells #[.int .i64 (B q).kind, .slice sa (B q).sl sc, .int .i64 (B q).arg] 95)).cell? ⟨w.heap.size + 1, 0, none⟩ = some (.int .i64 (B q).kind) := cN (w.heap.size + 1) (by simp) rfl
        go_wp2
        generalize (w.alloc (.cells #[.slice ra nr rc, .slice la nb lc] 36)).alloc (.cells #[.int .i64 (B q).kind, .slice sa (B q).sl sc, .int .i64 (B q).arg] 95) = X at *
        have BX : Hid (Below w.heap.size w X) := bX
        clear bX c0 c1 c2
        have z1 : ¬ c = p := by omega
        have z2 : p ≤ m := by omega
        have z3 : m ≤ c := by omega
        have z4 : p ≤ c := by omega
        have z5 : ¬ c = 0 := by omega
        have z6 := wrap_small m (by omega)
        go_region_with (go_at_call 132; refine (IH.out q (by omega) s _ _ _ y _ (by omega) (HF.out.less (by omega)) ST1.out (by have := HO.out; have := HP.out; omega) (by have := HMM.out; have := HP.out; omega) (by omega) (fun i hi => (HB.out i hi).later BX.out.drew) (HM.out.later BX.out.drew)).mono ?_; rintro e W2 ⟨rfl, hb2⟩; have HB2 : Hid (Below X.heap.size X W2) := (Below.refl _ X).drew.trans hb2; have yg0 := cell_on xg0 ((Below.refl _ X).drew.trans hb2); have yg1 := cell_on xg1 ((Below.refl _ X).drew.trans hb2); have yk := cell_on xk ((Below.refl _ X).drew.trans hb2); clear hb2)
        cases y with
        | false =>
          go_wp2
          go_region
          go_wp2
          go_ret
          refine ⟨ret_bool ?_, (bel_tr BX.out HB2.out).drew⟩
          rw [HX.out]
          simp [M.fN, HN2.out, E1.out, E4.out]
        | true =>
          go_wp2
          go_region_with (go_at_call 132; refine (IH.out s (by have := HSQ.out; omega) lo _ _ _ z _ (by have := HSQ.out; omega) (HF.out.less (by have := HSQ.out; omega)) ST2.out HO.out (by have := HP.out; omega) (by omega) (fun i hi => (HB.out i hi).later (bel_tr BX.out HB2.out).drew) (HM.out.later (bel_tr BX.out HB2.out).drew)).mono ?_; rintro e W3 ⟨rfl, hb3⟩; have HB3 : Hid (Below W2.heap.size W2 W3) := (Below.refl _ W2).drew.trans hb3; clear hb3)
          go_wp2
          go_ret
          refine ⟨ret_bool ?_, bel_tr (bel_tr BX.out HB2.out) HB3.out⟩
          rw [HX.out]
          simp [M.fN, HN2.out, E1.out, E4.out]
      · have f4 : ((B q).kind == 4) = false := by simp [e4]
        have f5 : ((B q).kind == 5) = true := by rcases e45 with k | k; exact absurd k e4; simp [k]
        have E4 : Hid (¬ (B q).kind = 4) := e4
        have E5 : Hid ((B q).kind = 5) := by rcases e45 with k | k; exact absurd k e4; exact k
        clear e4 e45 hN2
        go_enter Try.func132, Try.ntmps132
        go_wp2_with fail
        refine (l2start_any b o (m + 1) c (fun i => B (lo + i)) _ Q (HOP.out _ (bel2 w _ _)) x4 m p (by omega) hpm d1'.out d2'.out).mono ?_
        rintro e W ⟨rfl, hw⟩
        subst W
        have bX : Below w.heap.size w ((w.alloc (.cells #[.slice ra nr rc, .slice la nb lc] 36)).alloc (.cells #[.int .i64 (B q).kind, .slice sa (B q).sl sc, .int .i64 (B q).arg] 95)) := bel2 w _ _
        have xg0 : ((w.alloc (.cells #[.slice ra nr rc, .slice la nb lc] 36)).alloc (.cells #[.int .i64 (B q).kind, .slice sa (B q).sl sc, .int .i64 (B q).arg] 95)).cell? ⟨w.heap.size, 0, none⟩ = some (.slice ra nr rc) := cell_on (cN w.heap.size rfl rfl) (bel1 _ _)
        have xg1 : ((w.alloc (.cells #[.slice ra nr rc, .slice la nb lc] 36)).alloc (.cells #[.int .i64 (B q).kind, .slice sa (B q).sl sc, .int .i64 (B q).arg] 95)).cell? ⟨w.heap.size, 1, none⟩ = some (.slice la nb lc) := cell_on (cN w.heap.size rfl rfl) (bel1 _ _)
        have xk : ((w.alloc (.cells #[.slice ra nr rc, .slice la nb lc] 36)).alloc (.cells #[.int .i64 (B q).kind, .slice sa (B q).sl sc, .int .i64 (B q).arg] 95)).cell? ⟨w.heap.size + 1, 0, none⟩ = some (.int .i64 (B q).kind) := cN (w.heap.size + 1) (by simp) rfl
        go_wp2
        generalize (w.alloc (.cells #[.slice ra nr rc, .slice la nb lc] 36)).alloc (.cells #[.int .i64 (B q).kind, .slice sa (B q).sl sc, .int .i64 (B q).arg] 95) = X at *
        have BX : Hid (Below w.heap.size w X) := bX
        clear bX c0 c1 c2
        have z1 : ¬ c = p := by omega
        have z2 : p ≤ m := by omega
        have z3 : m ≤ c := by omega
        have z4 : p ≤ c := by omega
        have z5 : ¬ c = 0 := by omega
        have z6 := wrap_small m (by omega)
        go_region_with (go_at_call 132; refine (IH.out q (by omega) s _ _ _ y _ (by omega) (HF.out.less (by omega)) ST1.out (by have := HO.out; have := HP.out; omega) (by have := HMM.out; have := HP.out; omega) (by omega) (fun i hi => (HB.out i hi).later BX.out.drew) (HM.out.later BX.out.drew)).mono ?_; rintro e W2 ⟨rfl, hb2⟩; have HB2 : Hid (Below X.heap.size X W2) := (Below.refl _ X).drew.trans hb2; have yg0 := cell_on xg0 ((Below.refl _ X).drew.trans hb2); have yg1 := cell_on xg1 ((Below.refl _ X).drew.trans hb2); have yk := cell_on xk ((Below.refl _ X).drew.trans hb2); clear hb2)
        cases y with
        | true =>
          go_wp2
          go_region
          go_wp2
          go_ret
          refine ⟨ret_bool ?_, (bel_tr BX.out HB2.out).drew⟩
          rw [HX.out]
          simp [M.fN, HN2.out, E1.out, E4.out, E5.out]
        | false =>
          go_wp2
          go_region_with (go_at_call 132; refine (IH.out s (by have := HSQ.out; omega) lo _ _ _ z _ (by have := HSQ.out; omega) (HF.out.less (by have := HSQ.out; omega)) ST2.out HO.out (by have := HP.out; omega) (by omega) (fun i hi => (HB.out i hi).later (bel_tr BX.out HB2.out).drew) (HM.out.later (bel_tr BX.out HB2.out).drew)).mono ?_; rintro e W3 ⟨rfl, hb3⟩; have HB3 : Hid (Below W2.heap.size W2 W3) := (Below.refl _ W2).drew.trans hb3; clear hb3)
          go_wp2
          go_ret
          refine ⟨ret_bool ?_, bel_tr (bel_tr BX.out HB2.out) HB3.out⟩
          rw [HX.out]
          simp [M.fN, HN2.out, E1.out, E4.out, E5.out]
    · have g4 : ((B q).kind == 4) = false := by simp; exact fun k => e45 (.inl k)
      have g5 : ((B q).kind == 5) = false := by simp; exact fun k => e45 (.inr k)
      have E45 : Hid (¬ ((B q).kind = 4 ∨ (B q).kind = 5)) := e45
      have hc3 : Hid ((B q).kind = 0 ∨ (B q).kind = 6 ∨ (B q).kind = 7) := by
        show _ ∨ _
        have n1 := E1.out
        have n2 : ¬ (B q).kind = 2 := fun k => hN2 (.inl k)
        have n3 : ¬ (B q).kind = 3 := fun k => hN2 (.inr k)
        have n4 : ¬ (B q).kind = 4 := fun k => e45 (.inl k)
        have n5 : ¬ (B q).kind = 5 := fun k => e45 (.inr k)
        omega
      have hx : Hid (x = true) := by
        show _ = _
        have n4 : ¬ (B q).kind = 4 := fun k => e45 (.inl k)
        have n5 : ¬ (B q).kind = 5 := fun k => e45 (.inr k)
        rw [un_val _ B q lo x (fun u v => by simp [M.fN, n4, n5]) HF.out HS.out]
        simp [M.fN, HN2.out, E1.out, n4, n5, hc3.out]
      clear e45 hN2
      go_enter Try.func132, Try.ntmps132
      go_wp2
      go_ret
      exact ⟨ret_bool hx.out.symm, bel2 w _ _⟩

end Go.Proofs.Ytjndcajblpgjmaa
