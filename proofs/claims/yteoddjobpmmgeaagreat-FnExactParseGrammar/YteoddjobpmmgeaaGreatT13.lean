import Derived.Test.YteoddjobpmmgeaaGreatT12
set_option linter.unusedVariables false
set_option linter.unusedSimpArgs false
namespace Go.Proofs.YteoddjobpmmgeaaGreat
section
open Go.RowKit
open M (OpD NodeD Gr)
def BPc (f : Nat) (Q : Nat → Prop) (ra la : Option Addr) (rc lc nr nl : Nat) (l : List Tok) (D : List OpD) (w : World) : Prop :=
  ∀ a c w', Keep (fun _ => False) w w' → TksA Q w' a l → l.length ≤ c → Calls Tryz.prog f #[.slice a l.length c, .slice ra nr rc, .slice la nl lc] w' (Mk D w')
def SmD (D : List OpD) : Prop := D.length ≤ 1000000 ∧ ∀ x ∈ D, x.sl ≤ 1048576
theorem SmD.small {D : List OpD} (h : SmD D) : SmallB D.length (df D) := by
  refine ⟨Nat.le_trans h.1 (by omega), fun i hi => ?_⟩
  unfold df
  rw [List.getD_eq_getElem?_getD, List.getElem?_eq_getElem hi]
  exact h.2 _ (List.getElem_mem hi)
theorem TksA.sub {Q : Nat → Prop} {w : World} {b off : Nat} {l : List Tok} (h : ∀ i x, l[i]? = some x → TokC Q w b (off + i * 4) x) (k n : Nat) : TksA Q w (some ⟨b, off + k * 4, none⟩) ((l.drop k).take n) := by
  refine .inr ⟨b, off + k * 4, rfl, fun i x hx => ?_⟩
  have hi : (l.drop k)[i]? = some x := by
    by_cases e : i < n
    · rwa [List.getElem?_take_of_lt e] at hx
    · rw [List.getElem?_take_eq_none (by omega)] at hx; cases hx
  rw [List.getElem?_drop] at hi
  have := h (k + i) x hi
  rwa [show off + k * 4 + i * 4 = off + (k + i) * 4 by omega]
set_option maxHeartbeats 1000000 in
set_option maxRecDepth 100000 in
theorem bp_not (Q : Nat → Prop) (ra la : Option Addr) (rc lc nr nl : Nat) (t : Tok) (l : List Tok) (D : List OpD) (w : World) (hk : t.kind = 33) (hl : l.length + 1 ≤ 1048576) (hne : 0 < l.length) (hD : SmD D) (H : BPc 36 Q ra la rc lc nr nl l D w) : BPc 36 Q ra la rc lc nr nl (t :: l) (unD 7 D) w := by
  intro a c w' kw hT hc
  rw [List.length_cons] at hc
  rw [List.length_cons]
  obtain ⟨b, off, rfl, hcell⟩ := hT.at (i := 0) (by simp)
  have k0 := (hcell 0 t rfl).kind
  simp only [Nat.zero_mul, Nat.add_zero] at k0
  rw [hk] at k0
  have hS : TksA Q w' (some ⟨b, off + 1 * 4, none⟩) l := by
    have := TksA.sub hcell 1 l.length
    rwa [List.drop_succ_cons, List.drop_zero, List.take_length] at this
  have HR : Hid (Calls Tryz.prog 36 #[.slice (some ⟨b, off + 4, none⟩) l.length (c - 1), .slice ra nr rc, .slice la nl lc] w' (Mk D w')) := H _ (c - 1) w' kw hS (by omega)
  have HU : Hid (∀ W a1 c1, BodP (New w' W) W (.slice a1 D.length c1) D → Keep (fun _ => False) w' W → Calls Tryz.prog 55 #[.int .i64 7, .slice a1 D.length c1] W (Mk (unD 7 D) w')) := fun W a1 c1 hB hK => (l2un_any _ 7 a1 c1 D W hB.ops hD.small).mono (fun e W' h => h.from hK)
  clear hcell hT hS H hD
  have hc3 : ¬ c = 1 := by omega
  have hc4 : ¬ c - 1 = 0 := by omega
  go_enter Tryz.func36, Tryz.ntmps36
  go_wp2_with fail
  refine HR.out.mono ?_
  rintro e W ⟨a1, c1, rfl, hB, hK⟩
  have HU2 : Hid (Calls Tryz.prog 55 #[.int .i64 7, .slice a1 D.length c1] W (Mk (unD 7 D) w')) := HU.out W a1 c1 hB hK
  clear hB hK HU HR
  go_wp2_with fail
  refine HU2.out.mono ?_
  intro e W' hM
  have HM : Hid (Mk (unD 7 D) w' e W') := hM
  clear hM
  obtain ⟨a2, c2, rfl, h2, h3⟩ := HM.out
  clear h2 h3
  go_wp2
  go_ret
  exact HM.out
set_option maxHeartbeats 1000000 in
set_option maxRecDepth 100000 in
theorem bp_amp (Q : Nat → Prop) (ra la : Option Addr) (rc lc nr nl : Nat) (t : Tok) (l : List Tok) (D : List OpD) (w : World) (hk : t.kind = 38) (hl : l.length + 1 ≤ 1048576) (hne : 0 < l.length) (hD : SmD D) (hD' : SmD (unD 7 D)) (H : BPc 36 Q ra la rc lc nr nl l D w) : BPc 36 Q ra la rc lc nr nl (t :: l) (unD 7 (unD 7 D)) w := by
  intro a c w' kw hT hc
  rw [List.length_cons] at hc
  rw [List.length_cons]
  obtain ⟨b, off, rfl, hcell⟩ := hT.at (i := 0) (by simp)
  have k0 := (hcell 0 t rfl).kind
  simp only [Nat.zero_mul, Nat.add_zero] at k0
  rw [hk] at k0
  have hS : TksA Q w' (some ⟨b, off + 1 * 4, none⟩) l := by
    have := TksA.sub hcell 1 l.length
    rwa [List.drop_succ_cons, List.drop_zero, List.take_length] at this
  have HR : Hid (Calls Tryz.prog 36 #[.slice (some ⟨b, off + 4, none⟩) l.length (c - 1), .slice ra nr rc, .slice la nl lc] w' (Mk D w')) := H _ (c - 1) w' kw hS (by omega)
  have HU : Hid (∀ W a1 c1, BodP (New w' W) W (.slice a1 D.length c1) D → Keep (fun _ => False) w' W → Calls Tryz.prog 55 #[.int .i64 7, .slice a1 D.length c1] W (Mk (unD 7 D) w')) := fun W a1 c1 hB hK => (l2un_any _ 7 a1 c1 D W hB.ops hD.small).mono (fun e W' h => h.from hK)
  have HU3 : Hid (∀ W a1 c1, BodP (New w' W) W (.slice a1 (unD 7 D).length c1) (unD 7 D) → Keep (fun _ => False) w' W → Calls Tryz.prog 55 #[.int .i64 7, .slice a1 (unD 7 D).length c1] W (Mk (unD 7 (unD 7 D)) w')) := fun W a1 c1 hB hK => (l2un_any _ 7 a1 c1 (unD 7 D) W hB.ops hD'.small).mono (fun e W' h => h.from hK)
  clear hcell hT hS H hD hD'
  have hc3 : ¬ c = 1 := by omega
  have hc4 : ¬ c - 1 = 0 := by omega
  go_enter Tryz.func36, Tryz.ntmps36
  go_wp2_with fail
  refine HR.out.mono ?_
  rintro e W ⟨a1, c1, rfl, hB, hK⟩
  have HU2 : Hid (Calls Tryz.prog 55 #[.int .i64 7, .slice a1 D.length c1] W (Mk (unD 7 D) w')) := HU.out W a1 c1 hB hK
  clear hB hK HU HR
  go_wp2_with fail
  refine HU2.out.mono ?_
  rintro e W' ⟨a2, c2, rfl, hB, hK⟩
  have HU4 : Hid (Calls Tryz.prog 55 #[.int .i64 7, .slice a2 (unD 7 D).length c2] W' (Mk (unD 7 (unD 7 D)) w')) := HU3.out W' a2 c2 hB hK
  clear hB hK HU2 HU3
  go_wp2_with fail
  refine HU4.out.mono ?_
  intro e W2 hM
  have HM : Hid (Mk (unD 7 (unD 7 D)) w' e W2) := hM
  clear hM
  obtain ⟨a3, c3, rfl, h2, h3⟩ := HM.out
  clear h2 h3
  go_wp2
  go_ret
  exact HM.out
set_option maxHeartbeats 1000000 in
set_option maxRecDepth 100000 in
theorem bp_star (Q : Nat → Prop) (ra la : Option Addr) (rc lc nr nl : Nat) (t : Tok) (l : List Tok) (D : List OpD) (w : World) (hk : t.kind = 42) (hl : l.length + 1 ≤ 1048576) (hne : 0 < l.length) (h33 : kAt l 0 ≠ 33) (h38 : kAt l 0 ≠ 38) (hD : SmD D) (H : BPc 36 Q ra la rc lc nr nl l D w) : BPc 36 Q ra la rc lc nr nl (l ++ [t]) (unD 6 D) w := by
  intro a c w' kw hT hc
  rw [List.length_append, List.length_singleton] at hc
  rw [List.length_append, List.length_singleton]
  obtain ⟨b, off, rfl, hcell⟩ := hT.at (i := 0) (by simp)
  obtain ⟨x, hx⟩ : ∃ x, l[0]? = some x := ⟨_, List.getElem?_eq_getElem hne⟩
  have k0 := (hcell 0 x (by rw [List.getElem?_append_left hne]; exact hx)).kind
  have k1 := (hcell l.length t (by simp)).kind
  simp only [Nat.zero_mul, Nat.add_zero] at k0
  rw [hk] at k1
  rw [kAt_get hx] at h33 h38
  have e1 : (x.kind == 33) = false := by simpa using h33
  have e2 : (x.kind == 38) = false := by simpa using h38
  have hS : TksA Q w' (some ⟨b, off, none⟩) l := by
    have := TksA.sub hcell 0 l.length
    rwa [List.drop_zero, List.take_left, Nat.zero_mul, Nat.add_zero] at this
  have HR : Hid (Calls Tryz.prog 36 #[.slice (some ⟨b, off, none⟩) l.length c, .slice ra nr rc, .slice la nl lc] w' (Mk D w')) := H _ c w' kw hS (by omega)
  have HU : Hid (∀ W a1 c1, BodP (New w' W) W (.slice a1 D.length c1) D → Keep (fun _ => False) w' W → Calls Tryz.prog 55 #[.int .i64 6, .slice a1 D.length c1] W (Mk (unD 6 D) w')) := fun W a1 c1 hB hK => (l2un_any _ 6 a1 c1 D W hB.ops hD.small).mono (fun e W' h => h.from hK)
  clear hcell hT hS H hD hx h33 h38
  have v1 : ((l.length + 1 : Nat) : Int) - 1 = (l.length : Int) := by omega
  go_enter Tryz.func36, Tryz.ntmps36
  go_wp2_with fail
  refine HR.out.mono ?_
  rintro e W ⟨a1, c1, rfl, hB, hK⟩
  have HU2 : Hid (Calls Tryz.prog 55 #[.int .i64 6, .slice a1 D.length c1] W (Mk (unD 6 D) w')) := HU.out W a1 c1 hB hK
  clear hB hK HU HR
  go_wp2_with fail
  refine HU2.out.mono ?_
  intro e W' hM
  have HM : Hid (Mk (unD 6 D) w' e W') := hM
  clear hM
  obtain ⟨a2, c2, rfl, h2, h3⟩ := HM.out
  clear h2 h3
  go_wp2
  go_ret
  exact HM.out
set_option maxHeartbeats 1000000 in
set_option maxRecDepth 100000 in
theorem bp_opt (Q : Nat → Prop) (ra la : Option Addr) (rc lc nr nl : Nat) (t : Tok) (l : List Tok) (D : List OpD) (w : World) (hk : t.kind = 63) (hl : l.length + 1 ≤ 1048576) (hne : 0 < l.length) (h33 : kAt l 0 ≠ 33) (h38 : kAt l 0 ≠ 38) (hD : SmD D) (H : BPc 36 Q ra la rc lc nr nl l D w) : BPc 36 Q ra la rc lc nr nl (l ++ [t]) (binD 5 D (leafD 0 0)) w := by
  intro a c w' kw hT hc
  rw [List.length_append, List.length_singleton] at hc
  rw [List.length_append, List.length_singleton]
  obtain ⟨b, off, rfl, hcell⟩ := hT.at (i := 0) (by simp)
  obtain ⟨x, hx⟩ : ∃ x, l[0]? = some x := ⟨_, List.getElem?_eq_getElem hne⟩
  have k0 := (hcell 0 x (by rw [List.getElem?_append_left hne]; exact hx)).kind
  have k1 := (hcell l.length t (by simp)).kind
  simp only [Nat.zero_mul, Nat.add_zero] at k0
  rw [hk] at k1
  rw [kAt_get hx] at h33 h38
  have e1 : (x.kind == 33) = false := by simpa using h33
  have e2 : (x.kind == 38) = false := by simpa using h38
  have hS : TksA Q w' (some ⟨b, off, none⟩) l := by
    have := TksA.sub hcell 0 l.length
    rwa [List.drop_zero, List.take_left, Nat.zero_mul, Nat.add_zero] at this
  have HR : Hid (Calls Tryz.prog 36 #[.slice (some ⟨b, off, none⟩) l.length c, .slice ra nr rc, .slice la nl lc] w' (Mk D w')) := H _ c w' kw hS (by omega)
  have HU : Hid (∀ W a1 c1 W2 a2 c2, BodP (New w' W) W (.slice a1 D.length c1) D → Keep (fun _ => False) w' W → BodP (New W W2) W2 (.slice a2 (leafD 0 0).length c2) (leafD 0 0) → Keep (fun _ => False) W W2 → Calls Tryz.prog 56 #[.int .i64 5, .slice a1 D.length c1, .slice a2 (leafD 0 0).length c2] W2 (Mk (binD 5 D (leafD 0 0)) w')) := fun W a1 c1 W2 a2 c2 hB hK hB2 hK2 => (l2bin_any _ _ 5 a1 a2 c1 c2 D (leafD 0 0) W2 (hB.later hK2).ops hD.small hB2.ops ⟨by simp [leafD], fun i hi => by simp [leafD] at hi; subst hi; simp [df, leafD, opd]⟩ (by simp [leafD])).mono (fun e W' h => h.from (hK.trans hK2))
  clear hcell hT hS H hD hx h33 h38
  have v1 : ((l.length + 1 : Nat) : Int) - 1 = (l.length : Int) := by omega
  go_enter Tryz.func36, Tryz.ntmps36
  go_wp2_with fail
  refine HR.out.mono ?_
  rintro e W ⟨a1, c1, rfl, hB, hK⟩
  have HU1 : Hid (∀ W2 a2 c2, BodP (New W W2) W2 (.slice a2 (leafD 0 0).length c2) (leafD 0 0) → Keep (fun _ => False) W W2 → Calls Tryz.prog 56 #[.int .i64 5, .slice a1 D.length c1, .slice a2 (leafD 0 0).length c2] W2 (Mk (binD 5 D (leafD 0 0)) w')) := fun W2 a2 c2 => HU.out W a1 c1 W2 a2 c2 hB hK
  clear hB hK HU HR
  go_wp2_with fail
  refine (l2leaf_any 0 0 W).mono ?_
  rintro e W2 ⟨a2, c2, rfl, hB, hK⟩
  have HU2 : Hid (Calls Tryz.prog 56 #[.int .i64 5, .slice a1 D.length c1, .slice a2 (leafD 0 0).length c2] W2 (Mk (binD 5 D (leafD 0 0)) w')) := HU1.out W2 a2 c2 hB hK
  clear hB hK HU1
  generalize (leafD 0 0).length = ll at HU2 ⊢
  go_wp2_with fail
  refine HU2.out.mono ?_
  intro e W' hM
  have HM : Hid (Mk (binD 5 D (leafD 0 0)) w' e W') := hM
  clear hM
  obtain ⟨a3, c3, rfl, h2, h3⟩ := HM.out
  clear h2 h3
  go_wp2
  go_ret
  exact HM.out
end
section
open Go.RowKit
open M (OpD NodeD Gr)
set_option maxHeartbeats 1000000 in
set_option maxRecDepth 100000 in
theorem bp_grp (Q : Nat → Prop) (ra la : Option Addr) (rc lc nr nl : Nat) (o cl : Tok) (l : List Tok) (D : List OpD) (w : World) (hk : o.kind = 40) (hk' : cl.kind = 41) (hl : l.length + 2 ≤ 1048576) (H : BPc 17 Q ra la rc lc nr nl l D w) : BPc 36 Q ra la rc lc nr nl (o :: (l ++ [cl])) D w := by
  intro a c w' kw hT hc
  have hlen : (o :: (l ++ [cl])).length = l.length + 2 := by simp
  rw [hlen] at hc ⊢
  obtain ⟨b, off, rfl, hcell⟩ := hT.at (i := 0) (by simp)
  have k0 := (hcell 0 o rfl).kind
  have k1 := (hcell (l.length + 1) cl (by simp)).kind
  simp only [Nat.zero_mul, Nat.add_zero] at k0
  rw [hk] at k0
  rw [hk'] at k1
  have hS : TksA Q w' (some ⟨b, off + 1 * 4, none⟩) l := by
    have := TksA.sub hcell 1 l.length
    rwa [List.drop_succ_cons, List.drop_zero, List.take_left] at this
  have HR : Hid (Calls Tryz.prog 17 #[.slice (some ⟨b, off + 4, none⟩) l.length (c - 1), .slice ra nr rc, .slice la nl lc] w' (Mk D w')) := H _ (c - 1) w' kw hS (by omega)
  clear hcell hT hS H
  have v1 : ((l.length + 2 : Nat) : Int) - 1 = ((l.length + 1 : Nat) : Int) := by omega
  have hc3 : ¬ c = 1 := by omega
  have hc4 : ¬ c - 1 = 0 := by omega
  go_enter Tryz.func36, Tryz.ntmps36
  go_wp2_with fail
  refine HR.out.mono ?_
  intro e W' hM
  have HM : Hid (Mk D w' e W') := hM
  clear hM
  obtain ⟨a2, c2, rfl, h2, h3⟩ := HM.out
  clear h2 h3
  go_wp2
  go_ret
  exact HM.out
theorem strOps_len : ∀ (r : List Int) (D : List OpD), (r.foldl (fun out y => out ++ setD (oneD y) ++ [opd 4 0]) D).length = D.length + 2 * r.length
  | [], D => by simp
  | y :: r, D => by
    rw [List.foldl_cons, strOps_len r]
    simp [setD]
    omega
theorem l2one_set (x : Int) (w : World) : ∃ W, (∀ (P : Ending → World → Prop), (∀ e w', e = .returned (.slice (some ⟨w.heap.size, 0, none⟩) 2 2) → w' = W → P e w') → Calls Tryz.prog 58 #[.int .i64 x] w P) ∧ Calls Tryz.prog 57 #[.slice (some ⟨w.heap.size, 0, none⟩) 2 2] W (Mk (setD (oneD x)) w) := by
  refine ⟨w.alloc (.cells #[.int .i64 x, .int .i64 x] 3), fun P hP => (l2one_any x w).mono (fun e w' h => hP e w' h.1 h.2), ?_⟩
  refine (l2set_any (fun _ => True) (some ⟨w.heap.size, 0, none⟩) 2 (oneD x) _ (.inr ⟨w.heap.size, 0, rfl, trivial, fun i hi => ?_⟩) (by simp [oneD])).mono (fun e w' h => h.from (Keep.alloc _ _ _))
  have hb := blk_new w (.cells #[.int .i64 x, .int .i64 x] 3) _ rfl
  match i, hi with
  | 0, _ => exact blk_cell hb rfl
  | 1, _ => exact blk_cell hb rfl
set_option maxHeartbeats 1000000 in
set_option maxRecDepth 100000 in
theorem bp_str (Q : Nat → Prop) (ra la : Option Addr) (rc lc nr nl : Nat) (t : Tok) (w : World) (hk : t.kind = 34) (hz : t.nm.length ≤ 400000) (hb : BytL t.nm) : BPc 36 Q ra la rc lc nr nl [t] (strOps t.nm) w := by
  intro a c w' kw hT hc
  show Calls Tryz.prog 36 #[.slice a 1 c, _, _] w' _
  obtain ⟨b, off, rfl, hcell⟩ := hT.at (i := 0) (by simp)
  have hC := hcell 0 t rfl
  have k0 := hC.kind
  obtain ⟨na, nc, k2, hI⟩ := hC.nm
  simp only [Nat.zero_mul, Nat.add_zero] at k0 k2
  rw [hk] at k0
  have HI : Hid (Ints Q .u8 w' na t.nm.length (lf t.nm)) := hI
  clear hC hcell hT hI kw hk
  generalize t.nm = z at *
  cases z with
  | nil =>
    go_enter Tryz.func36, Tryz.ntmps36
    go_wp2_with fail
    refine (l2leaf_any 0 0 w').mono ?_
    intro e W' hM
    have HM : Hid (Mk (leafD 0 0) w' e W') := hM
    clear hM
    obtain ⟨a2, c2, rfl, h2, h3⟩ := HM.out
    clear h2 h3
    go_wp2
    go_ret
    exact HM.out
  | cons x r =>
    have hb0 := hb x (by simp)
    rcases HI.out with q | ⟨sb, so, rfl, _, hcc⟩
    · simp at q
    have s0 := hcc 0 (by simp)
    rw [Nat.add_zero, show lf (x :: r) 0 = x from rfl] at s0
    have HCC : Hid (∀ i y, r[i]? = some y → w'.cell? ⟨sb, so + (i + 1), none⟩ = some (.int .u8 y) ∧ 0 ≤ y ∧ y ≤ 255) := fun i y hy => by
      have hil := (List.getElem?_eq_some_iff.1 hy).1
      refine ⟨?_, hb y (List.mem_cons_of_mem _ (List.mem_of_getElem? hy))⟩
      rw [hcc (i + 1) (by simp; omega)]
      simp [lf, hy]
    rw [List.length_cons] at *
    have hn : r.length + 1 ≤ 400000 := hz
    clear HI hcc hz hb
    obtain ⟨W1, ho1, hs1⟩ := l2one_set x w'
    have HO1 : Hid (∀ (P : Ending → World → Prop), (∀ e w1, e = .returned (.slice (some ⟨w'.heap.size, 0, none⟩) 2 2) → w1 = W1 → P e w1) → Calls Tryz.prog 58 #[.int .i64 x] w' P) := ho1
    have HS1 : Hid (Calls Tryz.prog 57 #[.slice (some ⟨w'.heap.size, 0, none⟩) 2 2] W1 (Mk (setD (oneD x)) w')) := hs1
    clear ho1 hs1
    have v0 : ¬ ((r.length + 1 : Nat) : Int) = 0 := by omega
    have hs16 : ∀ k, (((r.take k).foldl (fun out y => out ++ setD (oneD y) ++ [opd 4 0]) (setD (oneD x)))).length ≤ 1 + 2 * r.length := fun k => by
      rw [strOps_len, List.length_take]
      simp [setD]
      omega
    have HS16 : Hid (∀ k, (((r.take k).foldl (fun out y => out ++ setD (oneD y) ++ [opd 4 0]) (setD (oneD x)))).length ≤ 1 + 2 * r.length) := hs16
    clear hs16
    go_enter Tryz.func36, Tryz.ntmps36
    go_wp2_with fail
    refine HO1.out _ ?_
    rintro e w1 rfl rfl
    go_wp2_with fail
    refine HS1.out.mono ?_
    rintro e W2 ⟨a1, c1, rfl, hB, hK⟩
    have HB : Hid (BodP (New w' W2) W2 (.slice a1 (setD (oneD x)).length c1) (setD (oneD x))) := hB
    have HK : Hid (Keep (fun _ => False) w' W2) := hK
    clear hB hK HO1 HS1 s0
    generalize hm : (setD (oneD x)).length = m0 at HB ⊢
    go_wp2_with fail
    go_loopw [11, 12] (fun v11 v12 wr => ∃ (k : Nat) (D : List OpD) (n1 : Nat) (a1 : Option Addr) (c1 : Nat), k ≤ r.length ∧ v12 = .int .i64 ((k + 1 : Nat) : Int) ∧ v11 = .slice a1 n1 c1 ∧ n1 = D.length ∧ D = (r.take k).foldl (fun out y => out ++ setD (oneD y) ++ [opd 4 0]) (setD (oneD x)) ∧ BodP (New w' wr) wr (.slice a1 n1 c1) D ∧ Keep (fun _ => False) w' wr) (fun _ v12 _ => r.length + 2 - (intOf v12).toNat)
    case atStart => exact ⟨0, setD (oneD x), m0, a1, c1, by omega, rfl, rfl, hm.symm, rfl, HB.out, HK.out⟩
    case round =>
      obtain ⟨k, D, n1, a1', c1', hk, rfl, rfl, hn1, hD, hB, hK⟩ := hrel
      clear HB HK hm
      have HB : Hid (BodP (New w' wr) wr (.slice a1' n1 c1') D) := hB
      have HK : Hid (Keep (fun _ => False) w' wr) := hK
      have HD : Hid (D = (r.take k).foldl (fun out y => out ++ setD (oneD y) ++ [opd 4 0]) (setD (oneD x))) := hD
      have HN : Hid (n1 = D.length) := hn1
      have HL : Hid (D.length ≤ 1 + 2 * r.length) := hD ▸ HS16.out k
      clear hB hK hD hn1
      by_cases hlt : k < r.length
      · have hlt' : ((k + 1 : Nat) : Int) < ((r.length + 1 : Nat) : Int) := by omega
        obtain ⟨y, hy⟩ : ∃ y, r[k]? = some y := ⟨_, List.getElem?_eq_getElem hlt⟩
        obtain ⟨s1, y0, y1⟩ := HCC.out k y hy
        have s2 := cell_on s1 HK.out.bel
        have HD2 : Hid (D ++ setD (oneD y) ++ [opd 4 0] = (r.take (k + 1)).foldl (fun out y => out ++ setD (oneD y) ++ [opd 4 0]) (setD (oneD x))) := by
          show _ = _
          rw [List.take_add_one, hy, Option.toList_some, List.foldl_append, ← HD.out]
          rfl
        obtain ⟨W3, ho1, hs1⟩ := l2one_set y wr
        have HO1 : Hid (∀ (P : Ending → World → Prop), (∀ e w1, e = .returned (.slice (some ⟨wr.heap.size, 0, none⟩) 2 2) → w1 = W3 → P e w1) → Calls Tryz.prog 58 #[.int .i64 y] wr P) := ho1
        have HS1 : Hid (Calls Tryz.prog 57 #[.slice (some ⟨wr.heap.size, 0, none⟩) 2 2] W3 (Mk (setD (oneD y)) wr)) := hs1
        clear ho1 hs1 s1 hy HD
        go_wp2_with fail
        refine HO1.out _ ?_
        rintro e w1 rfl rfl
        go_wp2_with fail
        refine HS1.out.mono ?_
        rintro e W4 ⟨a2, c2, rfl, hB2, hK2⟩
        have HB2 : Hid (BodP (New wr W4) W4 (.slice a2 (setD (oneD y)).length c2) (setD (oneD y))) := hB2
        have HK2 : Hid (Keep (fun _ => False) wr W4) := hK2
        clear hB2 hK2 HO1 HS1
        have HM2 : Hid ((setD (oneD y)).length = 1) := rfl
        generalize hm : (setD (oneD y)).length = m2 at HB2 HM2 ⊢
        go_wp2_with (first | (at_builtin; refine bodA rfl _ _ rfl rfl rfl HB.out HK.out HB2.out HK2.out (by have := HL.out; rw [hm, HM2.out]; omega) (by rw [hm, HM2.out]; omega) ?_; intro a3 c3 n3 W5 hn3 hb3 hk3) | (at_builtin; refine bodS (W1 := W5) (W2 := W5) rfl _ _ rfl rfl rfl hb3.out hk3.out (Keep.refl _ _) (by have := HL.out; have := HM2.out; rw [List.length_append]; omega) ?_; intro a4 c4 n4 W6 hn4 hb4 hk4))
        go_roundw
        case rel => exact ⟨k + 1, D ++ setD (oneD y) ++ [opd 4 0], n4, a4, c4, hlt, by go_num, rfl, hn4.out, HD2.out, hb4.out, hk4.out⟩
        case measure => simp [intOf]; omega
      · have hlt' : ¬ ((k + 1 : Nat) : Int) < ((r.length + 1 : Nat) : Int) := by omega
        go_wp2
        go_ret
        have e : D = strOps (x :: r) := by rw [HD.out, List.take_of_length_le (by omega)]; rfl
        have h1 := HB.out
        rw [HN.out, e] at h1
        exact ⟨a1', c1', by rw [HN.out, e]; rfl, h1, HK.out⟩
end
section
open Go.RowKit
open M (OpD NodeD Gr)
theorem barS_step {l : List Tok} {i : Nat} {x : Tok} (h : l[i]? = some x) (d bar : Int) : barS i d bar (l.drop i) = barS (i + 1) (dstep x.kind d) (if x.kind = 47 ∧ d = 0 then i else bar) (l.drop (i + 1)) := by rw [drop_cons h, barS_cons]
set_option maxHeartbeats 1000000 in
set_option maxRecDepth 100000 in
theorem bb_alt (Q : Nat → Prop) (ra la : Option Addr) (rc lc nr nl : Nat) (t : Tok) (l1 l2 : List Tok) (D1 D2 : List OpD) (w : World) (hl : l1.length + (l2.length + 1) ≤ 1048576) (hbar : barS 0 0 (-1) (l1 ++ t :: l2) = (l1.length : Int)) (hne : 0 < D2.length) (hD : D1.length + D2.length + 1 ≤ 16777216)
    (H1 : BPc 17 Q ra la rc lc nr nl l1 D1 w) (H2 : BPc 17 Q ra la rc lc nr nl l2 D2 w) : BPc 17 Q ra la rc lc nr nl (l1 ++ t :: l2) (binD 5 D1 D2) w := by
  intro a c w' kw hT hc
  have hlen : (l1 ++ t :: l2).length = l1.length + (l2.length + 1) := by simp
  rw [hlen] at hc ⊢
  obtain ⟨b, off, rfl, hcell⟩ := hT.at (i := 0) (by rw [hlen]; omega)
  have HC : Hid (∀ i, i < l1.length + (l2.length + 1) → ∃ x, (l1 ++ t :: l2)[i]? = some x ∧ w'.cell? ⟨b, off + i * 4, none⟩ = some (.int .u8 x.kind)) := fun i hi => ⟨_, List.getElem?_eq_getElem (by rw [hlen]; exact hi), (hcell i _ (List.getElem?_eq_getElem (by rw [hlen]; exact hi))).kind⟩
  have HX1 : Hid (Calls Tryz.prog 17 #[.slice (some ⟨b, off, none⟩) l1.length c, .slice ra nr rc, .slice la nl lc] w' (Mk D1 w')) := by
    refine H1 _ c w' kw ?_ (by omega)
    have := TksA.sub hcell 0 l1.length
    rwa [List.drop_zero, List.take_left, Nat.zero_mul, Nat.add_zero] at this
  have HX2 : Hid (∀ W a' c', Keep (fun _ => False) w' W → (a' = some ⟨b, off + (l1.length + 1) * 4, none⟩ ∨ l2 = []) → l2.length ≤ c' → Calls Tryz.prog 17 #[.slice a' l2.length c', .slice ra nr rc, .slice la nl lc] W (Mk D2 W)) := fun W a' c' hk ha hc' => by
    refine H2 a' c' W (kw.trans hk) ?_ hc'
    rcases ha with rfl | h
    · have := TksA.sub hcell (l1.length + 1) l2.length
      rw [show (l1 ++ t :: l2).drop (l1.length + 1) = l2 by rw [← List.drop_drop, List.drop_left]; rfl, List.take_length] at this
      exact this.later hk.bel
    · exact .inl h
  clear hcell hT H1 H2 kw
  obtain ⟨B, hB⟩ : ∃ B : Int, B = (l1.length : Int) := ⟨_, rfl⟩
  rw [← hB] at hbar
  have HBE : Hid (B = (l1.length : Int)) := hB
  clear hB
  generalize hL : l1 ++ t :: l2 = L at *
  go_enter Tryz.func17, Tryz.ntmps17
  go_wp2
  go_loopw [7, 8, 9] (fun v7 v8 v9 wr => ∃ (i : Nat) (d bar : Int), i ≤ l1.length + (l2.length + 1) ∧ v7 = .int .i64 bar ∧ v8 = .int .i64 d ∧ v9 = .int .i64 i ∧ wr = w' ∧ -(i : Int) ≤ d ∧ d ≤ i ∧ barS i d bar (L.drop i) = B) (fun _ _ v9 _ => l1.length + (l2.length + 1) - (intOf v9).toNat)
  case atStart => exact ⟨0, 0, -1, by omega, rfl, rfl, rfl, rfl, by omega, by omega, hbar⟩
  case round =>
    obtain ⟨i, d, bar, hi, rfl, rfl, rfl, rfl, hd1, hd2, he⟩ := hrel
    clear hbar
    by_cases hlt : i < l1.length + (l2.length + 1)
    · have hlt' : (i : Int) < ((l1.length + (l2.length + 1) : Nat) : Int) := by omega
      obtain ⟨x, hx, k0⟩ := HC.out i hlt
      rw [barS_step hx] at he
      have HE : Hid (barS (i + 1) (dstep x.kind d) (if x.kind = 47 ∧ d = 0 then i else bar) (L.drop (i + 1)) = B) := he
      clear he hx HX1 HX2 HC
      by_cases h40 : x.kind = 40
      · have e := HE.out
        rw [h40, dstep_o, if_neg (by omega)] at e
        rw [h40] at k0
        have HE2 : Hid (barS (i + 1) (d + 1) bar (L.drop (i + 1)) = B) := e
        clear e HE
        go_wp2
        go_roundw
        case rel => exact ⟨i + 1, d + 1, bar, by omega, rfl, by go_num, by go_num, by trivial, by omega, by omega, HE2.out⟩
        case measure => simp [intOf]; omega
      have y1 : (x.kind == 40) = false := by simpa using h40
      by_cases h41 : x.kind = 41
      · have e := HE.out
        rw [h41, dstep_c, if_neg (by omega)] at e
        rw [h41] at k0
        have HE2 : Hid (barS (i + 1) (d - 1) bar (L.drop (i + 1)) = B) := e
        clear e HE y1
        go_wp2
        go_roundw
        case rel => exact ⟨i + 1, d - 1, bar, by omega, rfl, by go_num, by go_num, by trivial, by omega, by omega, HE2.out⟩
        case measure => simp [intOf]; omega
      have y2 : (x.kind == 41) = false := by simpa using h41
      have e := HE.out
      rw [dstep_else h40 h41] at e
      by_cases h47 : x.kind = 47 ∧ d = 0
      · rw [if_pos h47] at e
        obtain ⟨q1, rfl⟩ := h47
        rw [q1] at k0
        have HE2 : Hid (barS (i + 1) 0 i (L.drop (i + 1)) = B) := e
        clear e HE y1 y2
        go_wp2
        go_roundw
        case rel => exact ⟨i + 1, 0, i, by omega, rfl, rfl, by go_num, by trivial, by omega, by omega, HE2.out⟩
        case measure => simp [intOf]; omega
      · rw [if_neg h47] at e
        have HE2 : Hid (barS (i + 1) d bar (L.drop (i + 1)) = B) := e
        clear e HE
        by_cases h : x.kind = 47
        · have hd0 : (d == 0) = false := by simpa using fun q => h47 ⟨h, q⟩
          rw [h] at k0
          clear y1 y2 h47 h
          go_wp2
          go_roundw
          case rel => exact ⟨i + 1, d, bar, by omega, rfl, rfl, by go_num, by trivial, by omega, by omega, HE2.out⟩
          case measure => simp [intOf]; omega
        · have y3 : (x.kind == 47) = false := by simpa using h
          go_wp2
          go_roundw
          case rel => exact ⟨i + 1, d, bar, by omega, rfl, rfl, by go_num, by trivial, by omega, by omega, HE2.out⟩
          case measure => simp [intOf]; omega
    · have hlt' : ¬ (i : Int) < ((l1.length + (l2.length + 1) : Nat) : Int) := by omega
      have e : bar = B := by
        rw [List.drop_of_length_le (by rw [← hL]; simp; omega), barS] at he
        exact he
      rw [HBE.out] at e
      subst e
      clear he HC HBE
      go_wp2_with fail
      refine HX1.out.mono ?_
      rintro e W1 ⟨a1, c1, rfl, hB1, hK1⟩
      have HB1 : Hid (BodP (New wr W1) W1 (.slice a1 D1.length c1) D1) := hB1
      have HK1 : Hid (Keep (fun _ => False) wr W1) := hK1
      have HX3 : Hid (∀ a' c', (a' = some ⟨b, off + (l1.length + 1) * 4, none⟩ ∨ l2 = []) → l2.length ≤ c' → Calls Tryz.prog 17 #[.slice a' l2.length c', .slice ra nr rc, .slice la nl lc] W1 (Mk D2 W1)) := fun a' c' => HX2.out W1 a' c' hK1
      clear hB1 hK1 HX1 HX2
      have hq : l1.length + (l2.length + 1) - (l1.length + 1) = l2.length := by omega
      go_wp2_with fail
      all_goals (
        refine Calls.mono (HX3.out _ _ (by first | exact .inl rfl | exact .inr (List.eq_nil_of_length_eq_zero (by omega))) (by omega)) ?_
        rintro e W2 ⟨a2, c2, rfl, hB2, hK2⟩
        have HB2 : Hid (BodP (New W1 W2) W2 (.slice a2 D2.length c2) D2) := hB2
        have HK2 : Hid (Keep (fun _ => False) W1 W2) := hK2
        clear hB2 hK2 HX3
        go_wp2_with (first | (at_builtin; refine bodA rfl _ _ rfl rfl rfl HB1.out HK1.out HB2.out HK2.out (by omega) hne ?_; intro a3 c3 n3 W5 hn3 hb3 hk3) | (at_builtin; refine bodS (W1 := W5) (W2 := W5) rfl _ _ rfl rfl rfl hb3.out hk3.out (Keep.refl _ _) (by rw [List.length_append]; omega) ?_; intro a4 c4 n4 W6 hn4 hb4 hk4))
        go_ret
        have h4 := hb4.out
        rw [hn4.out] at h4
        exact ⟨a4, c4, by rw [hn4.out]; rfl, h4, hk4.out⟩)
end
end Go.Proofs.YteoddjobpmmgeaaGreat
