/-
  Walks: the model's Render.
-/
import Derived.Test.YtkgopipejgcbiaaDoorLineCol
import Derived.Test.YtkgopipejgcbiaaDoorDec
import Derived.Test.YtkgopipejgcbiaaDoorApp
namespace Go.Proofs.YtkgopipejgcbiaaDoor
open Go.RowKit
set_option linter.unusedVariables false

/-- The numeral as numbers. -/
def decI (u : Nat) : List Int := (Lib.decDigits u).map fun b => (b.toNat : Int)
theorem decI_len (u : Nat) : (decI u).length ≤ u + 1 := by
  have := dec_len u
  simpa [decI] using this

/-- What Render answers, in numbers. -/
def Rz (T M : Nat → Int) (m f e L C : Nat) : List Int :=
  ((((((((decI L ++ [58]) ++ decI C) ++ [58, 32]) ++ lst M m) ++ [10]) ++ lst (sh T f) e) ++ [10]) ++ lst (fun _ => 32) (C - 1)) ++ [94, 10]

theorem LC.le {T : Nat → Int} {n q L C : Nat} (h : LC T n q L C) : L ≤ q + 1 ∧ C ≤ q + 1 := by
  obtain ⟨f, c, h1, h2, h3, h4⟩ := h
  have := M.cnt_le T q
  refine ⟨by omega, ?_⟩
  by_cases h0 : c = 0
  · omega
  · have a := h2.1 (c - 1) (by omega)
    have b := M.pos_ge T n f (c - 1)
    omega

theorem start_end {T : Nat → Int} {n q f : Nat} (h : M.Start T q f) (hq : q ≤ n) : q ≤ f + lnLen T n f := by
  by_cases hh : f + lnLen T n f < q
  · have e := lnLen_at (T := T) (n := n) (f := f) (by omega)
    exact absurd e (h.2.2 _ (by omega) hh)
  · omega

/-- What both answer at an offset of the text. -/
def Rendered (T M' : Nat → Int) (n m q : Nat) (w : World) (e : Ending) (w' : World) : Prop :=
  ∃ v L C f, e = .returned v ∧ LC T n q L C ∧ M.Start T q f ∧ OwnM w.heap.size w w' v (Rz T M' m f (lnLen T n f) L C)

set_option maxRecDepth 100000 in
set_option maxHeartbeats 1000000 in
/-- The model's Render at an offset of the text. -/
theorem srender_in (b off n cap q : Nat) (T : Nat → Int) (ma : Option Addr) (mb mo m mc : Nat) (M' : Nat → Int) (w : World) (hT : Tx w b off n T) (hb : ∀ i, 0 ≤ T i ∧ T i ≤ 255) (hn : n ≤ 1048576) (hq : q ≤ n)
    (hA : 0 < m → ma = some ⟨mb, mo, none⟩) (hM : Tx w mb mo m M') (hm : m ≤ 1048576) :
    Calls Tryd.prog 4 #[.slice (some ⟨b, off, none⟩) n cap, .int .i64 q, .slice ma m mc] w fun e w' => Rendered T M' n m q w e w' := by
  go_enter Tryd.func4, Tryd.ntmps4
  go_wp2_with fail
  refine (slineCol_in b off n cap q T _ hT hb hn hq).mono ?_
  rintro e w1 ⟨⟨L, C, rfl, hlc⟩, hw⟩
  subst w1
  obtain ⟨hL, hC⟩ := hlc.le
  obtain ⟨hL1, hC1⟩ := hlc.bound
  have HLC : Hid _ := hlc
  clear hlc
  have d0 : ((L : Int) == 0) = false := by simp; omega
  have e1 := dec_any L (by omega)
  have e2 := dec_any C (by omega)
  have l1 := dec_len L
  have l2 := dec_len C
  obtain ⟨x, hx⟩ : ∃ x, (⟨(Lib.decDigits L).toArray⟩ : ByteArray) = x := ⟨_, rfl⟩
  obtain ⟨y, hy⟩ : ∃ y, (⟨(Lib.decDigits C).toArray⟩ : ByteArray) = y := ⟨_, rfl⟩
  have sx : x.size ≤ 1048578 := by rw [← hx]; show (Lib.decDigits L).length ≤ _; omega
  have sy : y.size ≤ 1048578 := by rw [← hy]; show (Lib.decDigits C).length ≤ _; omega
  obtain ⟨z0, hz0⟩ : ∃ z0, z0 = (((decI L ++ [58]) ++ decI C) ++ [58, 32]) := ⟨_, rfl⟩
  obtain ⟨v0, w0, hcv, O0⟩ := own_bytes w.heap.size w w (Below.refl _ _) (Nat.le_refl _) (x ++ ⟨#[58]⟩ ++ y ++ ⟨#[58, 32]⟩) z0 (by rw [hz0, ← hx, ← hy]; simp [decI])
  have k0 : z0.length ≤ 3000000 := by
    have := decI_len L
    have := decI_len C
    rw [hz0]; simp; omega
  have E0 : Hid _ := hz0
  rw [hx] at e1
  rw [hy] at e2
  clear hz0 hx hy l1 l2
  go_wp2_with fail
  refine (e1 _).mono ?_
  rintro e w' ⟨rfl, hw⟩
  subst w'
  go_wp2_with fail
  refine (e2 _).mono ?_
  rintro e w' ⟨rfl, hw⟩
  subst w'
  go_wp2_with (first
    | (at_builtin; refine app rfl (.tmp 28) (.tmp 29) 22 rfl rfl rfl O0 (src_text hA (hM.later O0.below)) 3000000 1048576 k0 (by rw [lst_len]; exact hm) (by omega) ?_; intro v1 w1 z1 E1 k1 O1)
    | (at_builtin; refine app rfl (.tmp 31) (.tmp 32) 22 rfl rfl rfl (O1.alloc _) (src_one _ 10 _) 4048576 1 k1.out (by simp) (by omega) ?_; intro v2 w2 z2 E2 k2 O2)
    | (go_at_call 12; refine (lineStart_any b off n cap q T _ (hT.later O2.below) hb hn hq).mono ?_; rintro e w' ⟨⟨f, rfl, hst⟩, hw⟩; subst w'))
  have hll := lnLen_le T n f
  have hfq : f ≤ q := hst.1
  have HST : Hid _ := hst
  clear hst
  go_loopw [9, 10] (fun v i wr => ∃ j zs, f ≤ j ∧ j ≤ f + lnLen T n f ∧ i = .int .i64 (j : Nat) ∧ Hid (zs = z2 ++ lst (sh T f) (j - f)) ∧ OwnM w.heap.size w wr v zs) (fun _ i _ => n + 1 - (intOf i).toNat)
  case atStart => exact ⟨f, z2, Nat.le_refl _, by omega, rfl, (by rw [Nat.sub_self, lst_zero, List.append_nil] : z2 = z2 ++ lst (sh T f) (f - f)), O2⟩
  case round =>
    obtain ⟨j, zs, j1, j2, rfl, EJ, OJ⟩ := hrel
    have kz : zs.length ≤ 5097153 := by
      have := k2.out
      rw [EJ.out, List.length_append, lst_len]; omega
    by_cases hlt : j < f + lnLen T n f
    · have hc := (hT.later OJ.below) j (by omega)
      have h10 : (T j != 10) = true := by simpa using lnLen_not (n := n) j1 hlt
      have hI : (j : Int) < n := by omega
      go_wp2_with (at_builtin; refine app rfl (.tmp 50) (.tmp 55) 22 rfl rfl rfl (OJ.alloc _) (src_one _ (T j) _) 5097153 1 kz (by simp) (by omega) ?_; intro v' w' z' E' k' O')
      go_roundw
      case rel =>
        refine ⟨j + 1, z', by omega, by omega, by go_num, ?_, O'⟩
        show z' = _
        rw [E'.out, EJ.out, show j + 1 - f = (j - f) + 1 by omega, lst_succ, List.append_assoc]
        congr 3
        simp only [sh]
        rw [show f + (j - f) = j by omega]
      case measure => simp [intOf]; omega
    · have hj : j = f + lnLen T n f := by omega
      have EX : Hid (zs = z2 ++ lst (sh T f) (lnLen T n f)) := by
        show zs = _
        rw [EJ.out, hj, Nat.add_sub_cancel_left]
      have HX : (¬ ((j : Int) < n)) ∨ (((j : Int) < n) ∧ j < n ∧ (T j != 10) = false) := by
        by_cases h : j < n
        · have e : T j = 10 := by rw [hj]; exact lnLen_at (by omega)
          exact .inr ⟨by omega, h, by simp [e]⟩
        · exact .inl (by omega)
      clear EJ hj hlt
      rcases HX with hI | ⟨hI, hjn, h10⟩
      rotate_left
      have hc := (hT.later OJ.below) j hjn
      rotate_left
      all_goals
        go_wp2_with (at_builtin; refine app rfl (.tmp 57) (.tmp 58) 22 rfl rfl rfl (OJ.alloc _) (src_one _ 10 _) 5097153 1 kz (by simp) (by omega) ?_; intro v4 w4 z4 E4 k4 O4)
        go_loopw [9, 11] (fun v i wr => ∃ p zs, 1 ≤ p ∧ p ≤ C ∧ i = .int .i64 (p : Nat) ∧ Hid (zs = z4 ++ lst (fun _ => 32) (p - 1)) ∧ OwnM w.heap.size w wr v zs) (fun _ i _ => C + 1 - (intOf i).toNat)
        case atStart => exact ⟨1, z4, Nat.le_refl _, hC1, rfl, (by rw [Nat.sub_self, lst_zero, List.append_nil] : z4 = z4 ++ lst (fun _ => 32) (1 - 1)), O4⟩
        case round =>
          obtain ⟨p, ys, p1, p2, rfl, EP, OP⟩ := hrel
          have ky : ys.length ≤ 6145732 := by
            have := k4.out
            rw [EP.out, List.length_append, lst_len]; omega
          by_cases hpc : p < C
          · have hpI : (p : Int) < C := by omega
            go_wp2_with (at_builtin; refine app rfl (.tmp 65) (.tmp 66) 22 rfl rfl rfl (OP.alloc _) (src_one _ 32 _) 6145732 1 ky (by simp) (by omega) ?_; intro v' w' z' E' k' O')
            go_roundw
            case rel =>
              refine ⟨p + 1, z', by omega, by omega, by go_num, ?_, O'⟩
              show z' = _
              rw [E'.out, EP.out, show p + 1 - 1 = (p - 1) + 1 by omega, lst_succ, List.append_assoc]
            case measure => simp [intOf]; omega
          · obtain rfl : p = C := by omega
            have hpI : ¬ ((p : Int) < p) := by omega
            go_wp2_with (at_builtin; refine app rfl (.tmp 68) (.const (.string ⟨#[94, 10]⟩)) 9 rfl rfl rfl OP (src_str _ _ [94, 10] rfl) 6145732 2 ky (by simp) (by omega) ?_; intro v5 w5 z5 E5 k5 O5)
            go_ret
            refine ⟨_, L, p, f, rfl, HLC.out, HST.out, ?_⟩
            have hz : z5 = Rz T M' m f (lnLen T n f) L p := by
              rw [E5.out, EP.out, E4.out, EX.out, E2.out, E1.out, E0.out]
              rfl
            rw [← hz]
            exact O5

set_option maxRecDepth 100000 in
set_option maxHeartbeats 400000 in
/-- The model's Render at an offset outside the text. -/
theorem srender_out (a : Option Addr) (n cap : Nat) (q : Int) (ma : Option Addr) (m mc : Nat) (w : World) (hn : n ≤ 1048576) (hq : q < 0 ∨ (n : Int) < q) :
    Calls Tryd.prog 4 #[.slice a n cap, .int .i64 q, .slice ma m mc] w fun e w' => e = .returned (.slice none 0 0) ∧ w' = w := by
  have HQ : Hid _ := hq
  clear hq
  go_enter Tryd.func4, Tryd.ntmps4
  go_wp2_with fail
  refine (slineCol_out a n cap q _ hn HQ.out).mono ?_
  rintro e w1 ⟨rfl, hw⟩
  subst w1
  go_wp2
  go_ret
  exact ⟨rfl, rfl⟩

end Go.Proofs.YtkgopipejgcbiaaDoor
