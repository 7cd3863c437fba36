import Derived.Test.YteoddjobpmmgeaaGreatT23
import Derived.Test.YteoddjobpmmgeaaGreatT09
import Derived.WalkMore
set_option linter.unusedVariables false
set_option linter.unusedSimpArgs false
namespace Go.Proofs.YteoddjobpmmgeaaGreat
section
open Go.RowKit
open M (OpD NodeD Gr)
def nextR (r : Rv) (k : Tok) (sa : Option Addr) (sc : Nat) : Rv := { r with v2 := .int .u8 (kk k.kind), v3 := .int .i64 (k.at_ : Nat), v4 := .string (str k.nm.length (lf k.nm)), v5 := .slice sa k.set.length sc }
def advT (t : Tx) (i : Nat) : Tok × Nat := if skip t i < t.n then nxtT t (skip t i) else (⟨0, t.n, [], []⟩, t.n)
def AdvIs (t : Tx) (i : Nat) (rb : Nat) (r : Rv) (w : World) (e : Ending) (w' : World) : Prop :=
  Keep (fun b => b = rb) w w' ∧ ((∃ v sa sc, (skip t i < t.n → (advT t i).1.kind ≠ 0) ∧ e = .returned v ∧ RB rb t (nextR r (advT t i).1 sa sc) (advT t i).2 w' ∧ OwnC (New w w') w' (.slice sa (advT t i).1.set.length sc) 1 (advT t i).1.set.length (intVs .i64 (lf (advT t i).1.set) (advT t i).1.set.length)) ∨ (skip t i < t.n ∧ (advT t i).1.kind = 0 ∧ e = .panicked (flt 5 (skip t i : Nat))))
def advJ (rb : Nat) (t : Tx) (r : Rv) (i : Nat) (w : World) (v : Value) (wr : World) : Prop :=
  ∃ j : Nat, j ≤ t.n ∧ skip t j = skip t i ∧ RB rb t r j wr ∧ Keep (fun b => b = rb) w wr
def comJ (rb : Nat) (t : Tx) (r : Rv) (i j : Nat) (w : World) (v : Value) (wr : World) : Prop :=
  ∃ k : Nat, j ≤ k ∧ k ≤ t.n ∧ eolE t k = eolE t j ∧ RB rb t r k wr ∧ Keep (fun b => b = rb) w wr
theorem RB.next {rb : Nat} {t : Tx} {r : Rv} {i : Nat} {w : World} (h : RB rb t r i w) (v2 v3 v4 v5 : Value) : RB rb t { r with v2 := v2, v3 := v3, v4 := v4, v5 := v5 } i ((((w.setCell ⟨rb, 2, none⟩ v2).setCell ⟨rb, 3, none⟩ v3).setCell ⟨rb, 4, none⟩ v4).setCell ⟨rb, 5, none⟩ v5) :=
  blk_set v5 (blk_set v4 (blk_set v3 (blk_set v2 h)))
theorem own_setX {P : Nat → Prop} {X : World} {v : Value} {n : Nat} {cs : List Value} {b o : Nat} {u : Value} (h : OwnC P X v 1 n cs) (hb : ¬ P b) : OwnC P (X.setCell ⟨b, o, none⟩ u) v 1 n cs := h.on (fun x hx => Below.heap_setCell _ _ _ _ (fun e => hb (by have e' : x = b := e; rw [← e']; exact hx)))
theorem adv_fin {rb : Nat} {t : Tx} {r : Rv} {i p j : Nat} {w W : World} {k : Tok} {sa : Option Addr} {sc : Nat} {v : Value} {v2 v3 v4 : Value} (hp : skip t i = p) (hlt : p < t.n) (hk : nxtT t p = (k, j)) (h0 : k.kind ≠ 0) (hK : Keep (fun b => b = rb) w W) (hrb : rb < w.heap.size) (hB : RB rb t r j W) (hO : OwnC (New w W) W (.slice sa k.set.length sc) 1 k.set.length (intVs .i64 (lf k.set) k.set.length))
    (e2 : v2 = .int .u8 (kk k.kind)) (e3 : v3 = .int .i64 (k.at_ : Nat)) (e4 : v4 = .string (str k.nm.length (lf k.nm))) :
    AdvIs t i rb r w (.returned v) ((((W.setCell ⟨rb, 2, none⟩ v2).setCell ⟨rb, 3, none⟩ v3).setCell ⟨rb, 4, none⟩ v4).setCell ⟨rb, 5, none⟩ (.slice sa k.set.length sc)) := by
  subst e2 e3 e4
  have ha : advT t i = (k, j) := by unfold advT; rw [hp, if_pos hlt]; exact hk
  refine ⟨keepC (keepC (keepC (keepC hK _ _) _ _) _ _) _ _, .inl ⟨v, sa, sc, ?_⟩⟩
  rw [ha]
  refine ⟨fun _ => h0, rfl, hB.next _ _ _ _, ?_⟩
  have hn : ¬ New w W rb := fun q => by have := q.1; omega
  exact ownC_wide (own_setX (own_setX (own_setX (own_setX hO hn) hn) hn) hn) (fun b hb => ⟨hb.1, by simp only [size_set]; exact hb.2⟩)
theorem nxt_one (t : Tx) {p : Nat} (h : t.T p ∈ oneS) : nxtT t p = (⟨t.T p, p, [], []⟩, p + 1) ∧ t.T p ≠ 0 ∧ kk (t.T p) = t.T p := by
  have h0 := h
  simp only [oneS, List.mem_cons, List.not_mem_nil, or_false] at h
  have hL : ¬ M.Letter (t.T p) := fun q => by unfold M.Letter at q; omega
  refine ⟨?_, by omega, by unfold kk; rw [if_neg (by omega)]⟩
  unfold nxtT
  rw [if_neg hL, if_neg (by omega), if_neg (by omega), if_pos h0]
theorem nxt_str (t : Tx) {p : Nat} (h : t.T p = 34) : nxtT t p = (match strT t p with | none => ((⟨0, p, [], []⟩ : Tok), p) | some (z, j) => (⟨34, p, z, []⟩, j)) := by
  unfold nxtT
  rw [if_neg (by rw [h]; unfold M.Letter; omega), if_pos h]
  cases strT t p <;> rfl
theorem nxt_cls (t : Tx) {p : Nat} (h : t.T p = 91) : nxtT t p = (match clsT t p with | none => ((⟨0, p, [], []⟩ : Tok), p) | some (z, j) => (⟨91, p, [], z⟩, j)) := by
  unfold nxtT
  rw [if_neg (by rw [h]; unfold M.Letter; omega), if_neg (by omega), if_pos h]
  cases clsT t p <;> rfl
theorem nxt_name (t : Tx) {p : Nat} (h : M.Letter (t.T p)) : nxtT t p = (⟨110, p, (nameF t (t.n - p) p []).1, []⟩, (nameF t (t.n - p) p []).2) := by
  unfold nxtT
  rw [if_pos h]
theorem nxt_bad (t : Tx) {p : Nat} (h : ¬ M.Letter (t.T p)) (h1 : t.T p ≠ 34) (h2 : t.T p ≠ 91) (h3 : ¬ t.T p ∈ oneS) : nxtT t p = (⟨0, p, [], []⟩, p + 1) := by
  unfold nxtT
  rw [if_neg h, if_neg h1, if_neg h2, if_neg h3]
theorem adv_bad {rb : Nat} {t : Tx} {r : Rv} {i p : Nat} {w W : World} {k : Tok} {j : Nat} (hp : skip t i = p) (hlt : p < t.n) (hk : nxtT t p = (k, j)) (h0 : k.kind = 0) (hK : Keep (fun b => b = rb) w W) : AdvIs t i rb r w (.panicked (flt 5 (p : Nat))) W := by
  have ha : advT t i = (k, j) := by unfold advT; rw [hp, if_pos hlt]; exact hk
  exact ⟨hK, .inr ⟨by rw [hp]; exact hlt, by rw [ha]; exact h0, by rw [hp]⟩⟩
theorem adv_one {rb : Nat} {t : Tx} {r : Rv} {i p : Nat} {w W : World} {v : Value} (hp : skip t i = p) (hlt : p < t.n) (h : t.T p ∈ oneS) (hK : Keep (fun b => b = rb) w W) (hB : RB rb t r p W) :
    AdvIs t i rb r w (.returned v) (((((W.setCell ⟨rb, 2, none⟩ (.int .u8 (t.T p))).setCell ⟨rb, 3, none⟩ (.int .i64 (p : Nat))).setCell ⟨rb, 4, none⟩ (.string ⟨#[]⟩)).setCell ⟨rb, 5, none⟩ (.slice none 0 0)).setCell ⟨rb, 1, none⟩ (.int .i64 ((p : Int) + 1))) := by
  obtain ⟨h1, h2, h3⟩ := nxt_one t h
  have ha : advT t i = (⟨t.T p, p, [], []⟩, p + 1) := by unfold advT; rw [hp, if_pos hlt]; exact h1
  refine ⟨keepC (keepC (keepC (keepC (keepC hK _ _) _ _) _ _) _ _) _ _, .inl ⟨v, none, 0, ?_⟩⟩
  rw [ha]
  refine ⟨fun _ => h2, rfl, ?_, .inl ⟨rfl, rfl, rfl⟩⟩
  have hh := (hB.next (.int .u8 (t.T p)) (.int .i64 (p : Nat)) (.string ⟨#[]⟩) (.slice none 0 0)).set (p + 1) (x := (p : Int) + 1) (by simp)
  have e : nextR r ⟨t.T p, p, [], []⟩ none 0 = { r with v2 := .int .u8 (t.T p), v3 := .int .i64 (p : Nat), v4 := .string ⟨#[]⟩, v5 := .slice none 0 0 } := by
    unfold nextR
    simp only [h3]
    rfl
  rw [e]
  exact hh
theorem adv_end {rb : Nat} {t : Tx} {r : Rv} {i : Nat} {w W : World} {v : Value} (hp : skip t i = t.n) (hK : Keep (fun b => b = rb) w W) (hB : RB rb t r t.n W) :
    AdvIs t i rb r w (.returned v) ((((W.setCell ⟨rb, 2, none⟩ (.int .u8 0)).setCell ⟨rb, 3, none⟩ (.int .i64 (t.n : Nat))).setCell ⟨rb, 4, none⟩ (.string ⟨#[]⟩)).setCell ⟨rb, 5, none⟩ (.slice none 0 0)) := by
  have ha : advT t i = (⟨0, t.n, [], []⟩, t.n) := by unfold advT; rw [hp, if_neg (Nat.lt_irrefl _)]
  refine ⟨keepC (keepC (keepC (keepC hK _ _) _ _) _ _) _ _, .inl ⟨v, none, 0, ?_⟩⟩
  rw [ha]
  refine ⟨fun q => absurd q (by rw [hp]; exact Nat.lt_irrefl _), rfl, hB.next (.int .u8 0) (.int .i64 (t.n : Nat)) (.string ⟨#[]⟩) (.slice none 0 0), .inl ⟨rfl, rfl, rfl⟩⟩
set_option maxHeartbeats 8000000 in
set_option maxRecDepth 100000 in
theorem advance_any (rb : Nat) (t : Tx) (r : Rv) (i : Nat) (w : World) (hB : RB rb t r i w) (hT : TxQ rb w r.ta t) (hi : i ≤ t.n) (htc : t.n ≤ r.tc) :
    Calls Tryz.prog 40 #[.pointer (some ⟨rb, 0, none⟩)] w (AdvIs t i rb r w) := by
  have hn := t.le
  have HB : Hid (RB rb t r i w) := hB
  have HT : Hid (TxQ rb w r.ta t) := hT
  have hrb : rb < w.heap.size := hB.lt
  clear hB hT
  go_enter Tryz.func40, Tryz.ntmps40
  go_wp2
  go_step3
  go_wp2
  go_step3
  go_wp2
  go_loopw [12] (advJ rb t r i w) (fun _ wr => t.n - atOf rb wr)
  case atStart => exact ⟨i, hi, rfl, HB.out, Keep.refl _ _⟩
  case round =>
    obtain ⟨j, hj, hsk, hB, hK⟩ := hrel
    have HSK : Hid (skip t j = skip t i) := hsk
    have HAT : Hid (atOf rb wr = j) := hB.at_
    have HBJ : Hid (RB rb t r j wr) := hB
    have HKJ : Hid (Keep (fun b => b = rb) w wr) := hK
    have d0 : wr.cell? ⟨rb, 0, none⟩ = some (.slice r.ta t.n r.tc) := blk_cell hB rfl
    have d1 : wr.cell? ⟨rb, 1, none⟩ = some (.int .i64 (j : Nat)) := blk_cell hB rfl
    clear hsk hB hK HB
    by_cases hlt : j < t.n
    · have hlt' : (j : Int) < t.n := by omega
      have hTJ : TxQ rb wr r.ta t := HT.out.keep HKJ.out
      obtain ⟨b, off, e, hq, hcell⟩ := hTJ.at hlt
      have HTA : Hid (r.ta = some ⟨b, off, none⟩) := e
      have HS1 : Hid ((if wsP (t.T j) then skip t (j + 1) else if t.T j = 35 then skip t (eolE t j) else j) = skip t i) := by
        have h := HSK.out
        rw [skip_step, if_pos hlt] at h
        exact h
      have dT := hcell j hlt
      rw [e] at d0
      have hbne : ¬ b = rb := hq.2
      clear hTJ hcell hq e
      go_upto_region 0 with fail
      go_quiet (fail)
      obtain ⟨V1, hV1⟩ : ∃ V, V = wr.drewN nq := ⟨_, rfl⟩
      have HBV1 : Hid (RB rb t r j V1) := by rw [hV1]; exact HBJ.out.keep (keep_drewN wr nq)
      have HKV1 : Hid (Keep (fun b => b = rb) w V1) := by rw [hV1]; exact keepD HKJ.out nq
      have dT1 : V1.cell? ⟨b, off + j, none⟩ = some (.int .u8 (t.T j)) := by rw [hV1]; simpa using dT
      rw [← hV1]
      clear hV1 d0 d1 dT HBJ HKJ
      have d0 : V1.cell? ⟨rb, 0, none⟩ = some (.slice r.ta t.n r.tc) := blk_cell HBV1.out rfl
      have d1 : V1.cell? ⟨rb, 1, none⟩ = some (.int .i64 (j : Nat)) := blk_cell HBV1.out rfl
      rw [HTA.out] at d0
      go_upto_region 1 with fail
      go_quiet (fail)
      obtain ⟨V, hV⟩ : ∃ V, V = V1.drewN nq := ⟨_, rfl⟩
      have HBV : Hid (RB rb t r j V) := by rw [hV]; exact HBV1.out.keep (keep_drewN V1 _)
      have HKV : Hid (Keep (fun b => b = rb) w V) := by rw [hV]; exact keepD HKV1.out _
      rw [← hV]
      clear hV d0 d1 dT1 HBV1 HKV1
      have d1 : V.cell? ⟨rb, 1, none⟩ = some (.int .i64 (j : Nat)) := blk_cell HBV.out rfl
      have g1 : V.frozen? ⟨rb, 1, none⟩ = false := blk_frz HBV.out
      have HAV : Hid (∀ x : Nat, ∀ y : Int, y = (x : Nat) → atOf rb (V.setCell ⟨rb, 1, none⟩ (.int .i64 y)) = x ∧ RB rb t r x (V.setCell ⟨rb, 1, none⟩ (.int .i64 y))) := fun x y hy => ⟨(HBV.out.set x hy).at_, HBV.out.set x hy⟩
      by_cases hws : wsP (t.T j)
      · have HNX : Hid (∀ v, advJ rb t r i w v (V.setCell ⟨rb, 1, none⟩ (.int .i64 ((j : Int) + 1)))) := fun v => ⟨j + 1, hlt, by
          have h := HS1.out
          rw [if_pos hws] at h
          exact h, (HAV.out (j + 1) _ (by simp)).2, keepC HKV.out _ _⟩
        have HME : Hid (atOf rb (V.setCell ⟨rb, 1, none⟩ (.int .i64 ((j : Int) + 1))) = j + 1) := (HAV.out (j + 1) _ (by simp)).1
        unfold wsP at hws
        clear HS1
        rcases hws with hc | hc | hc | hc
        all_goals (
          rw [hc]
          clear hc
          go_wp2
          go_roundw
          case rel => exact HNX.out _
          case measure => rw [HME.out, HAT.out]; omega)
      · have HS2 : Hid ((if t.T j = 35 then skip t (eolE t j) else j) = skip t i) := by
          have h := HS1.out
          rw [if_neg hws] at h
          exact h
        clear HS1
        by_cases h35 : t.T j = 35
        · have HS3 : Hid (skip t (eolE t j) = skip t i) := by
            have h := HS2.out
            rw [if_pos h35] at h
            exact h
          have HGT : Hid (j < eolE t j ∧ eolE t j ≤ t.n) := eolE_gt t hlt h35
          rw [h35]
          clear h35 hws HS2
          go_wp2
          go_loopw [52] (comJ rb t r i j w) (fun _ wr => t.n - atOf rb wr)
          case atStart => exact ⟨j, Nat.le_refl _, by omega, rfl, HBV.out, HKV.out⟩
          case round =>
            obtain ⟨k, hk1, hk2, hke, hB6, hK6⟩ := hrel
            have HKE : Hid (eolE t k = eolE t j) := hke
            have HB6 : Hid (RB rb t r k wr) := hB6
            have HK6 : Hid (Keep (fun b => b = rb) w wr) := hK6
            have HAT6 : Hid (atOf rb wr = k) := hB6.at_
            have q0 : wr.cell? ⟨rb, 0, none⟩ = some (.slice r.ta t.n r.tc) := blk_cell hB6 rfl
            have q1 : wr.cell? ⟨rb, 1, none⟩ = some (.int .i64 (k : Nat)) := blk_cell hB6 rfl
            have q2 : wr.frozen? ⟨rb, 1, none⟩ = false := blk_frz hB6
            have hT6 : TxQ rb wr r.ta t := HT.out.keep hK6
            rw [HTA.out] at q0
            clear hke hB6 hK6
            by_cases hkl : k < t.n
            · have hkl' : (k : Int) < t.n := by omega
              obtain ⟨b', off', e', _, hcell'⟩ := hT6.at hkl
              rw [HTA.out] at e'
              injection e' with e'
              injection e' with e1 e2
              subst e1 e2
              have qT := hcell' k hkl
              clear hcell' hT6
              go_upto_region 10 with fail
              go_quiet (fail)
              obtain ⟨V6, hV6⟩ : ∃ V, V = wr.drewN nq := ⟨_, rfl⟩
              have HB7 : Hid (RB rb t r k V6) := by rw [hV6]; exact HB6.out.keep (keep_drewN wr nq)
              have HK7 : Hid (Keep (fun b => b = rb) w V6) := by rw [hV6]; exact keepD HK6.out nq
              have qT7 : V6.cell? ⟨b, off + k, none⟩ = some (.int .u8 (t.T k)) := by rw [hV6]; simpa using qT
              rw [← hV6]
              clear hV6 q0 q1 q2 qT HB6 HK6
              have q0 : V6.cell? ⟨rb, 0, none⟩ = some (.slice r.ta t.n r.tc) := blk_cell HB7.out rfl
              have q1 : V6.cell? ⟨rb, 1, none⟩ = some (.int .i64 (k : Nat)) := blk_cell HB7.out rfl
              rw [HTA.out] at q0
              go_upto_region 11 with fail
              go_quiet (fail)
              obtain ⟨V8, hV8⟩ : ∃ V, V = V6.drewN nq := ⟨_, rfl⟩
              have HB8 : Hid (RB rb t r k V8) := by rw [hV8]; exact HB7.out.keep (keep_drewN V6 _)
              have HK8 : Hid (Keep (fun b => b = rb) w V8) := by rw [hV8]; exact keepD HK7.out _
              have HAT8 : Hid (atOf rb V8 = k) := HB8.out.at_
              rw [← hV8]
              clear hV8 q0 q1 qT7 HB7 HK7
              have q1 : V8.cell? ⟨rb, 1, none⟩ = some (.int .i64 (k : Nat)) := blk_cell HB8.out rfl
              have q2 : V8.frozen? ⟨rb, 1, none⟩ = false := blk_frz HB8.out
              by_cases h10 : t.T k = 10
              · have hek : eolE t k = k := by rw [eolE_step, if_neg (fun q => q.2 h10)]
                have HNX : Hid (∀ v, advJ rb t r i w v V8) := fun v => ⟨k, by omega, by
                  have h := HKE.out
                  rw [hek] at h
                  rw [h]
                  exact HS3.out, HB8.out, HK8.out⟩
                have hjk : j < k := by have h := HKE.out; rw [hek] at h; have := HGT.out; omega
                rw [h10]
                clear h10 hek
                go_wp2
                go_roundw
                case rel => exact HNX.out _
                case measure => rw [HAT8.out, HAT.out]; omega
              · have h10' : (t.T k == 10) = false := by simpa using h10
                have HEK : Hid (eolE t (k + 1) = eolE t j) := by
                  have h := HKE.out
                  rw [eolE_step, if_pos ⟨hkl, h10⟩] at h
                  exact h
                have HNX : Hid (∀ v, comJ rb t r i j w v (V8.setCell ⟨rb, 1, none⟩ (.int .i64 ((k : Int) + 1)))) := fun v => ⟨k + 1, by omega, hkl, HEK.out, HB8.out.set (k + 1) (by simp), keepC HK8.out _ _⟩
                have HME : Hid (atOf rb (V8.setCell ⟨rb, 1, none⟩ (.int .i64 ((k : Int) + 1))) = k + 1) := (HB8.out.set (k + 1) (by simp)).at_
                clear h10
                go_wp2
                go_roundw
                case rel => exact HNX.out _
                case measure => rw [HME.out, HAT6.out]; omega
            · have hkl' : ¬ (k : Int) < t.n := by omega
              have hek : eolE t k = k := by rw [eolE_step, if_neg (fun q => hkl q.1)]
              have hjk : j < k := by have h := HKE.out; rw [hek] at h; have := HGT.out; omega
              have HNX : Hid (∀ n v, advJ rb t r i w v (wr.drewN n) ∧ atOf rb (wr.drewN n) = k) := fun n v => ⟨⟨k, by omega, by
                have h := HKE.out
                rw [hek] at h
                rw [h]
                exact HS3.out, HB6.out.keep (keep_drewN wr n), keepD HK6.out n⟩, (HB6.out.keep (keep_drewN wr n)).at_⟩
              clear hek hT6
              go_upto_region 10 with fail
              go_quiet (fail)
              go_wp2
              go_roundw
              case rel => exact (HNX.out _ _).1
              case measure => rw [(HNX.out _ (.bool true)).2, HAT.out]; omega
        · have HP : Hid (skip t i = j) := by
            have h := HS2.out
            rw [if_neg h35] at h
            exact h.symm
          have w1 : (t.T j == 32) = false := by simp only [beq_eq_false_iff_ne]; exact fun q => hws (.inl q)
          have w2 : (t.T j == 9) = false := by simp only [beq_eq_false_iff_ne]; exact fun q => hws (.inr (.inl q))
          have w3 : (t.T j == 13) = false := by simp only [beq_eq_false_iff_ne]; exact fun q => hws (.inr (.inr (.inl q)))
          have w4 : (t.T j == 10) = false := by simp only [beq_eq_false_iff_ne]; exact fun q => hws (.inr (.inr (.inr q)))
          have w5 : (t.T j == 35) = false := by simpa using h35
          have d2 : V.cell? ⟨rb, 2, none⟩ = some r.v2 := blk_cell HBV.out rfl
          have d3 : V.cell? ⟨rb, 3, none⟩ = some r.v3 := blk_cell HBV.out rfl
          have d4 : V.cell? ⟨rb, 4, none⟩ = some r.v4 := blk_cell HBV.out rfl
          have d5 : V.cell? ⟨rb, 5, none⟩ = some r.v5 := blk_cell HBV.out rfl
          have g2 : V.frozen? ⟨rb, 2, none⟩ = false := blk_frz HBV.out
          have g3 : V.frozen? ⟨rb, 3, none⟩ = false := blk_frz HBV.out
          have g4 : V.frozen? ⟨rb, 4, none⟩ = false := blk_frz HBV.out
          have g5 : V.frozen? ⟨rb, 5, none⟩ = false := blk_frz HBV.out
          clear hws h35 HS2
          by_cases hone : t.T j ∈ oneS
          · have HFI : Hid (∀ v, AdvIs t i rb r w (.returned v) (((((V.setCell ⟨rb, 2, none⟩ (.int .u8 (t.T j))).setCell ⟨rb, 3, none⟩ (.int .i64 (j : Nat))).setCell ⟨rb, 4, none⟩ (.string ⟨#[]⟩)).setCell ⟨rb, 5, none⟩ (.slice none 0 0)).setCell ⟨rb, 1, none⟩ (.int .i64 ((j : Int) + 1)))) := fun v => adv_one HP.out hlt hone HKV.out HBV.out
            generalize t.T j = c at *
            simp only [oneS, List.mem_cons, List.not_mem_nil, or_false] at hone
            rcases hone with rfl | rfl | rfl | rfl | rfl | rfl | rfl | rfl | rfl | rfl | rfl
            all_goals (
              clear w1 w2 w3 w4 w5
              go_wp2
              (try rw [Exit.noGoto_ret])
              refine bodyPost_ret (results_none rfl _ _ _) rfl ?_
              exact HFI.out _)
          · have w6 : ∀ c, c ∈ oneS → (t.T j == c) = false := fun c hc => by simp only [beq_eq_false_iff_ne]; exact fun q => hone (by rw [q]; exact hc)
            have x1 := w6 61 (by decide)
            have x2 := w6 59 (by decide)
            have x3 := w6 47 (by decide)
            have x4 := w6 33 (by decide)
            have x5 := w6 38 (by decide)
            have x6 := w6 42 (by decide)
            have x7 := w6 63 (by decide)
            have x8 := w6 40 (by decide)
            have x9 := w6 41 (by decide)
            have x10 := w6 46 (by decide)
            have x11 := w6 94 (by decide)
            have HONE : Hid (¬ t.T j ∈ oneS) := hone
            clear w6 hone d1 g1 d2 d3 d4 d5 g2 g3 g4 g5
            by_cases h34 : t.T j = 34
            · have HX : Hid (nxtT t j = (match strT t j with | none => ((⟨0, j, [], []⟩ : Tok), j) | some (z, j') => (⟨34, j, z, []⟩, j'))) := nxt_str t h34
              have HSC : Hid (Calls Tryz.prog 61 #[.pointer (some ⟨rb, 0, none⟩)] V (ScS (strT t j) j rb t r V)) := scanString_any rb t r j V HBV.out (HT.out.keep HKV.out) hlt
              rw [h34]
              clear h34 w1 w2 w3 w4 w5 x1 x2 x3 x4 x5 x6 x7 x8 x9 x10 x11
              go_wp2_with fail
              refine HSC.out.mono ?_
              rintro e W ⟨hk4, ⟨z, j4, hres, rfl, hB4⟩ | ⟨hres, rfl⟩⟩
              · have HFI : Hid (∀ v, AdvIs t i rb r w (.returned v) ((((W.setCell ⟨rb, 2, none⟩ (.int .u8 34)).setCell ⟨rb, 3, none⟩ (.int .i64 (j : Nat))).setCell ⟨rb, 4, none⟩ (.string (str z.length (lf z)))).setCell ⟨rb, 5, none⟩ (.slice none 0 0))) := fun v =>
                  adv_fin (k := ⟨34, j, z, []⟩) (sa := none) (sc := 0) (j := j4) HP.out hlt (by rw [HX.out, hres]) (by show (34 : Int) ≠ 0; decide) (HKV.out.trans hk4) hrb hB4 (.inl ⟨rfl, rfl, rfl⟩) rfl rfl rfl
                have d2 : W.cell? ⟨rb, 2, none⟩ = some r.v2 := blk_cell hB4 rfl
                have d3 : W.cell? ⟨rb, 3, none⟩ = some r.v3 := blk_cell hB4 rfl
                have d4 : W.cell? ⟨rb, 4, none⟩ = some r.v4 := blk_cell hB4 rfl
                have d5 : W.cell? ⟨rb, 5, none⟩ = some r.v5 := blk_cell hB4 rfl
                have g2 : W.frozen? ⟨rb, 2, none⟩ = false := blk_frz hB4
                have g3 : W.frozen? ⟨rb, 3, none⟩ = false := blk_frz hB4
                have g4 : W.frozen? ⟨rb, 4, none⟩ = false := blk_frz hB4
                have g5 : W.frozen? ⟨rb, 5, none⟩ = false := blk_frz hB4
                clear hk4 hB4 hres HX HSC
                generalize str z.length (lf z) = sz at *
                go_wp2
                (try rw [Exit.noGoto_ret])
                refine bodyPost_ret (results_none rfl _ _ _) rfl ?_
                exact HFI.out _
              · have HFI : Hid (AdvIs t i rb r w (.panicked (flt 5 (j : Nat))) W) := adv_bad (k := ⟨0, j, [], []⟩) (j := j) HP.out hlt (by rw [HX.out, hres]) rfl (HKV.out.trans hk4)
                clear hk4 hres HX HSC
                go_wp2
                exact ⟨rfl, HFI.out⟩
            · have y1 : (t.T j == 34) = false := by simpa using h34
              by_cases h91 : t.T j = 91
              · have HX : Hid (nxtT t j = (match clsT t j with | none => ((⟨0, j, [], []⟩ : Tok), j) | some (z, j') => (⟨91, j, [], z⟩, j'))) := nxt_cls t h91
                have HSC : Hid (Calls Tryz.prog 62 #[.pointer (some ⟨rb, 0, none⟩)] V (ScC (clsT t j) j rb t r V)) := scanClass_any rb t r j V HBV.out (HT.out.keep HKV.out) hlt
                rw [h91]
                clear h34 h91 y1 w1 w2 w3 w4 w5 x1 x2 x3 x4 x5 x6 x7 x8 x9 x10 x11
                go_wp2_with fail
                refine HSC.out.mono ?_
                rintro e W ⟨hk4, ⟨z, j4, sa, sc, hres, rfl, hB4, hO4⟩ | ⟨hres, rfl⟩⟩
                · have HFI : Hid (∀ v, AdvIs t i rb r w (.returned v) ((((W.setCell ⟨rb, 2, none⟩ (.int .u8 91)).setCell ⟨rb, 3, none⟩ (.int .i64 (j : Nat))).setCell ⟨rb, 4, none⟩ (.string ⟨#[]⟩)).setCell ⟨rb, 5, none⟩ (.slice sa z.length sc))) := fun v =>
                    adv_fin (k := ⟨91, j, [], z⟩) (sa := sa) (sc := sc) (j := j4) HP.out hlt (by rw [HX.out, hres]) (by show (91 : Int) ≠ 0; decide) (HKV.out.trans hk4) hrb hB4 (ownC_wide hO4 (fun b hb => ⟨Nat.le_trans HKV.out.size hb.1, hb.2⟩)) rfl rfl rfl
                  have d2 : W.cell? ⟨rb, 2, none⟩ = some r.v2 := blk_cell hB4 rfl
                  have d3 : W.cell? ⟨rb, 3, none⟩ = some r.v3 := blk_cell hB4 rfl
                  have d4 : W.cell? ⟨rb, 4, none⟩ = some r.v4 := blk_cell hB4 rfl
                  have d5 : W.cell? ⟨rb, 5, none⟩ = some r.v5 := blk_cell hB4 rfl
                  have g2 : W.frozen? ⟨rb, 2, none⟩ = false := blk_frz hB4
                  have g3 : W.frozen? ⟨rb, 3, none⟩ = false := blk_frz hB4
                  have g4 : W.frozen? ⟨rb, 4, none⟩ = false := blk_frz hB4
                  have g5 : W.frozen? ⟨rb, 5, none⟩ = false := blk_frz hB4
                  clear hk4 hB4 hO4 hres HX HSC
                  generalize z.length = zn at *
                  go_wp2
                  (try rw [Exit.noGoto_ret])
                  refine bodyPost_ret (results_none rfl _ _ _) rfl ?_
                  exact HFI.out _
                · have HFI : Hid (AdvIs t i rb r w (.panicked (flt 5 (j : Nat))) W) := adv_bad (k := ⟨0, j, [], []⟩) (j := j) HP.out hlt (by rw [HX.out, hres]) rfl (HKV.out.trans hk4)
                  clear hk4 hres HX HSC
                  go_wp2
                  exact ⟨rfl, HFI.out⟩
              · have y2 : (t.T j == 91) = false := by simpa using h91
                have HSC : Hid (Calls Tryz.prog 63 #[.pointer (some ⟨rb, 0, none⟩)] V (ScN j rb t r V)) := scanName_any rb t r j V HBV.out (HT.out.keep HKV.out) hlt htc
                have HNB : Hid (¬ M.Letter (t.T j) → nxtT t j = (⟨0, j, [], []⟩, j + 1)) := fun q => nxt_bad t q h34 h91 HONE.out
                have HNL : Hid (M.Letter (t.T j) → nxtT t j = (⟨110, j, (nameF t (t.n - j) j []).1, []⟩, (nameF t (t.n - j) j []).2)) := nxt_name t
                clear h34 h91
                go_wp2_with fail
                refine HSC.out.mono ?_
                rintro e W ⟨hk4, ⟨hL, rfl, hB4⟩ | ⟨hL, rfl⟩⟩
                · have HFI : Hid (∀ v, AdvIs t i rb r w (.returned v) ((((W.setCell ⟨rb, 2, none⟩ (.int .u8 97)).setCell ⟨rb, 3, none⟩ (.int .i64 (j : Nat))).setCell ⟨rb, 4, none⟩ (.string (str (nameF t (t.n - j) j []).1.length (lf (nameF t (t.n - j) j []).1)))).setCell ⟨rb, 5, none⟩ (.slice none 0 0))) := fun v =>
                    adv_fin (k := ⟨110, j, (nameF t (t.n - j) j []).1, []⟩) (sa := none) (sc := 0) HP.out hlt (HNL.out hL) (by show (110 : Int) ≠ 0; decide) (HKV.out.trans hk4) hrb hB4 (.inl ⟨rfl, rfl, rfl⟩) rfl rfl rfl
                  have d2 : W.cell? ⟨rb, 2, none⟩ = some r.v2 := blk_cell hB4 rfl
                  have d3 : W.cell? ⟨rb, 3, none⟩ = some r.v3 := blk_cell hB4 rfl
                  have d4 : W.cell? ⟨rb, 4, none⟩ = some r.v4 := blk_cell hB4 rfl
                  have d5 : W.cell? ⟨rb, 5, none⟩ = some r.v5 := blk_cell hB4 rfl
                  have g2 : W.frozen? ⟨rb, 2, none⟩ = false := blk_frz hB4
                  have g3 : W.frozen? ⟨rb, 3, none⟩ = false := blk_frz hB4
                  have g4 : W.frozen? ⟨rb, 4, none⟩ = false := blk_frz hB4
                  have g5 : W.frozen? ⟨rb, 5, none⟩ = false := blk_frz hB4
                  clear hk4 hB4 hL HNB HNL HSC
                  generalize str (nameF t (t.n - j) j []).1.length (lf (nameF t (t.n - j) j []).1) = sz at *
                  go_wp2
                  (try rw [Exit.noGoto_ret])
                  refine bodyPost_ret (results_none rfl _ _ _) rfl ?_
                  exact HFI.out _
                · have HFI : Hid (AdvIs t i rb r w (.panicked (flt 5 (j : Nat))) W) := adv_bad (k := ⟨0, j, [], []⟩) (j := j + 1) HP.out hlt (HNB.out hL) rfl (HKV.out.trans hk4)
                  clear hk4 hL HNB HNL HSC
                  go_wp2
                  exact ⟨rfl, HFI.out⟩
    · have HP : Hid (skip t i = t.n) := by
        have h := HSK.out
        rw [skip_step, if_neg hlt] at h
        show _ = _
        omega
      obtain rfl : j = t.n := by omega
      have hlt' : ¬ (t.n : Int) < t.n := by omega
      go_upto_region 0 with fail
      go_quiet (fail)
      obtain ⟨W, hV1⟩ : ∃ V, V = wr.drewN nq := ⟨_, rfl⟩
      have hB4 : RB rb t r t.n W := by rw [hV1]; exact HBJ.out.keep (keep_drewN wr nq)
      have HKV1 : Hid (Keep (fun b => b = rb) w W) := by rw [hV1]; exact keepD HKJ.out nq
      have HFI : Hid (∀ v, AdvIs t i rb r w (.returned v) ((((W.setCell ⟨rb, 2, none⟩ (.int .u8 0)).setCell ⟨rb, 3, none⟩ (.int .i64 (t.n : Nat))).setCell ⟨rb, 4, none⟩ (.string ⟨#[]⟩)).setCell ⟨rb, 5, none⟩ (.slice none 0 0))) := fun v => adv_end HP.out HKV1.out hB4
      rw [← hV1]
      clear hV1 d0 d1 HBJ HKJ
      have d1 : W.cell? ⟨rb, 1, none⟩ = some (.int .i64 (t.n : Nat)) := blk_cell hB4 rfl
      have d2 : W.cell? ⟨rb, 2, none⟩ = some r.v2 := blk_cell hB4 rfl
      have d3 : W.cell? ⟨rb, 3, none⟩ = some r.v3 := blk_cell hB4 rfl
      have d4 : W.cell? ⟨rb, 4, none⟩ = some r.v4 := blk_cell hB4 rfl
      have d5 : W.cell? ⟨rb, 5, none⟩ = some r.v5 := blk_cell hB4 rfl
      have g2 : W.frozen? ⟨rb, 2, none⟩ = false := blk_frz hB4
      have g3 : W.frozen? ⟨rb, 3, none⟩ = false := blk_frz hB4
      have g4 : W.frozen? ⟨rb, 4, none⟩ = false := blk_frz hB4
      have g5 : W.frozen? ⟨rb, 5, none⟩ = false := blk_frz hB4
      clear hB4
      go_wp2
      exact ⟨rfl, _, results_none rfl _ _ _, HFI.out _⟩
end
end Go.Proofs.YteoddjobpmmgeaaGreat
